/- Appends of drawn regions: a literal of nothing, what is appended to it. -/
import Derived.Test.YthefddclefimoaaDoorEqA
import Derived.Test.YthefddclefimoaaDoorOpen
namespace Go.Proofs.YthefddclefimoaaDoor
open Go.RowKit
set_option linter.unusedVariables false
set_option linter.unusedSimpArgs false
/-- A literal of nothing: it has no room. -/
def NewE (s base : Nat) (u : Value) (w : World) : Prop := ∃ B, base ≤ B ∧ u = .slice (some ⟨B, 0, none⟩) 0 0 ∧ OwS s w u [] B
/-- A slice of the call's own, behind the world of the base. -/
def NewQ (s base : Nat) (rs : List (List Value)) (u : Value) (w : World) : Prop := ∃ B, base ≤ B ∧ OwS s w u rs B
theorem NewE.below {s base : Nat} {u : Value} {w w' : World} (h : NewE s base u w) (hb : Below w.heap.size w w') : NewE s base u w' := by
  obtain ⟨B, h1, h2, h3⟩ := h
  exact ⟨B, h1, h2, h3.below hb⟩
theorem NewE.le {s base n : Nat} {u : Value} {w : World} (h : NewE s base u w) (hn : n ≤ base) : NewE s n u w := by
  obtain ⟨B, h1, h2, h3⟩ := h
  exact ⟨B, Nat.le_trans hn h1, h2, h3⟩
theorem NewQ.below {s base : Nat} {rs : List (List Value)} {u : Value} {w w' : World} (h : NewQ s base rs u w) (hb : Below w.heap.size w w') : NewQ s base rs u w' := by
  obtain ⟨B, h1, h3⟩ := h
  exact ⟨B, h1, h3.below hb⟩
theorem NewQ.le {s base n : Nat} {rs : List (List Value)} {u : Value} {w : World} (h : NewQ s base rs u w) (hn : n ≤ base) : NewQ s n rs u w := by
  obtain ⟨B, h1, h3⟩ := h
  exact ⟨B, Nat.le_trans hn h1, h3⟩
section
variable {P : Program} {ops : Array Oper} {o : Oper} {N : Nat} {f : Fl} {w : World}
theorem dv_T {p : Prop} [Decidable p] (h : DV P ops o N f w (.bool (decide p))) (hp : p) : DV P ops o N f w (.bool true) := by rwa [decide_eq_true hp] at h
theorem dx_lit0E {t s bytes : Nat} (ho : o.op = .buildSlice t 0 #[]) (ht : apB P t s bytes = true) (h0 : 0 < s) (hw : wantF ops o f = some true := by rfl) : DR P ops o N f w (fun u W => Below w.heap.size w W ∧ NewE s w.heap.size u W) := fun a ha => by
  obtain ⟨e, i, Z, hu, hi, hZ, rfl, rfl, hzs⟩ := of_apB ht
  have hrun := run_buildSlice (P := P) (w := w) hu hi hZ 0 #[] (by omega) (cs := #[]) (by simp [Instr.fill])
  exact Does.of_wp (wantF_of ha hw) fun K hK => by
    unfold Oper.wp execOp
    simp only [ho, Sem.run_bind, List.map_toArray, List.map_nil, hrun, Sem.run_pure, Result.andThen_ok]
    obtain ⟨n1, n2, n3⟩ := newB_row w e []
    exact hK _ _ ⟨n2, _, Nat.le_refl _, rfl, h0, (fun r hr => by cases hr), 0, [], rfl, Nat.le_refl _, Nat.zero_le _, by simp, by simpa using n1⟩
theorem dx_apO' {t s bytes B : Nat} {x y : Operand} {v v2 : Value} {rs news : List (List Value)} {L : List Nat} (ho : o.op = .call { callee := .builtin .append, args := #[x, y], argTypes := #[t, t] }) (ht : apB P t s bytes = true) (hx : ev f x = some v) (hy : ev f y = some v2)
    (h : OwS s w v rs B) (h2 : RdF s L w v2 news) (h1 : ∀ r ∈ news, ∀ u ∈ r, u.oneCell' = true) (hm : rs.length + news.length ≤ maxLen) (hby : (rs.length + news.length) * bytes ≤ 140737488355328) (hw : wantF ops o f = some true := by rfl) : DR P ops o N f w (GrO s B w (rs ++ news)) := fun a ha => by
  obtain ⟨e, i, Z, hu, hi, hz, rfl, rfl, hzs⟩ := of_apB ht
  have hx := ha.ev hx
  have hy := ha.ev hy
  obtain ⟨v', w', B', hr, h3, h4⟩ := run_apO (w := w) (t := t) (ty := o.type) hu hi hz hzs h h2 h1 hm hby
  exact Does.of_wp (wantF_of ha hw) fun K hK => by
    unfold Oper.wp execOp
    simp only [ho, resolve, invoke, builtin, Sem.run_bind, Sem.run_pure, Result.andThen_ok, List.map_toArray, List.map_cons, List.map_nil, hx, hy, hr]
    exact hK _ _ ⟨B', h3, h4⟩
/-- An append to a literal of nothing: nothing changes, or what comes is new. -/
theorem dx_apE {t s bytes base : Nat} {x y : Operand} {u v2 : Value} {news : List (List Value)} {L : List Nat} (ho : o.op = .call { callee := .builtin .append, args := #[x, y], argTypes := #[t, t] }) (ht : apB P t s bytes = true) (hx : ev f x = some u) (hy : ev f y = some v2)
    (h : NewE s base u w) (h2 : RdF s L w v2 news) (hm : news.length ≤ maxLen) (hby : news.length * bytes ≤ 140737488355328) (hb : base ≤ w.heap.size) (hw : wantF ops o f = some true := by rfl) : DR P ops o N f w (fun u W => Below w.heap.size w W ∧ NewQ s base news u W) := fun a ha => by
  obtain ⟨B, h3, rfl, h4⟩ := h
  by_cases hn : news = []
  · subst hn
    have ht0 := ht
    obtain ⟨e, i, Z, hu, hi, hz, rfl, rfl, hzs⟩ := of_apB ht
    have hx := ha.ev hx
    have hy := ha.ev hy
    obtain ⟨_, _, a2, cap2, rfl, hd1, hd2, hd3, hd4⟩ := h2
    have hr : (Builtin.append_ #[t, t] o.type #[.slice (some ⟨B, 0, none⟩) 0 0, .slice a2 0 cap2]).run P w = .ok (.slice (some ⟨B, 0, none⟩) 0 0) w := by
      cases a2 with
      | none => simp [Builtin.append_, run_underlying hu, sizeOf, typeInfo, hi, Builtin.lenOf, Builtin.firstCells, storeCells]
      | some a2 => simp [Builtin.append_, run_underlying hu, sizeOf, typeInfo, hi, Builtin.lenOf, Builtin.firstCells, loadCells, loadCellsFrom, storeCells]
    exact Does.of_wp (wantF_of ha hw) fun K hK => by
      unfold Oper.wp execOp
      simp only [List.length_nil] at hy
      simp only [ho, resolve, invoke, builtin, Sem.run_bind, Sem.run_pure, Result.andThen_ok, List.map_toArray, List.map_cons, List.map_nil, hx, hy, hr]
      exact hK _ _ ⟨Below.refl _ _, B, h3, h4⟩
  · have hrd : RdF s [] w (.slice (some ⟨B, 0, none⟩) ([] : List (List Value)).length ([] : List (List Value)).length) [] := h4.rd (by simp)
    have := dx_apF (N := N) (f := f) (P := P) (ops := ops) (o := o) (w := w) (s := s) (rs := []) (news := news) (L := []) ho ht hx hy hrd (h2.less (by simp)) hn (by simpa using hm) (by simpa using hby) hw
    exact (this.mono fun v W' h => ⟨h.2.1, _, hb, by simpa using h.1⟩) a ha
end
end Go.Proofs.YthefddclefimoaaDoor
