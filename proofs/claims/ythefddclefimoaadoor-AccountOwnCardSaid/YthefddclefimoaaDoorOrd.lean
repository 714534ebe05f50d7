/- A law of ours on regions whose order is drawn: each operation is shown once, from what holds of the operations that it waits for; what was shown of one stays true while the others run. No program stands here. -/
import Derived.Test.YthefddclefimoaaDoorBase
import Derived.RegionTactic
namespace Go.Proofs.YthefddclefimoaaDoor
open Go.RowKit
set_option linter.unusedVariables false

/-- Which operations an operation waits for. -/
def depsOf (md : Region.Mode) (o : Oper) : List Nat := (o.after.toList.filter (Region.binds md)).map (·.on)
def depsAt (md : Region.Mode) (ops : Array Oper) (i : Nat) : List Nat := ((ops[i]?).map (depsOf md)).getD []
def dstAt (ops : Array Oper) (i : Nat) : Option Tmp := (ops[i]?).bind (·.dst)
/-- What was yielded by some operations alone. -/
def restr (f : Nat → Value) (l : List Nat) (k : Nat) : Value := if l.contains k then f k else undef
def upd {α : Type} (f : Nat → α) (i : Nat) (v : α) (k : Nat) : α := if k = i then v else f k
/-- The act, with what these operations have yielded. -/
def putDeps (ops : Array Oper) (f : Nat → Value) : List Nat → Act → Act
  | [], a => a
  | j :: l, a => putDeps ops f l (a.put (dstAt ops j) (f j))
/-- No two operations write one slot; an operation looks at a slot that another one writes just if it waits for it, or the other way round. -/
def ordB (md : Region.Mode) (ops : Array Oper) : Bool :=
  (List.range ops.size).all fun i => match ops[i]? with
    | none => true
    | some o => (match o.op with | .select .. => false | _ => true) && (depsOf md o).all (fun j => decide (j < i)) &&
      (List.range ops.size).all fun j => match dstAt ops j with
        | none => true
        | some t => (j == i || dstAt ops i != some t) && (!(o.looksAt ops).contains t || j == i || (depsOf md o).contains j || (depsAt md ops j).contains i) && !((depsOf md o).contains j && (depsAt md ops j).contains i)

/-- An act that is another one with what some operations have yielded. -/
structure Agrees (ops : Array Oper) (L : Nat → Prop) (f : Nat → Value) (a a' : Act) : Prop where
  defers : a'.defers = a.defers
  size : a'.tmps.size = a.tmps.size
  put : ∀ j t, L j → dstAt ops j = some t → t < a.tmps.size → a'.tmps[t]? = some (f j)
  same : ∀ t, (∀ j, L j → dstAt ops j ≠ some t) → a'.tmps[t]? = a.tmps[t]?

theorem Agrees.start {ops : Array Oper} {f : Nat → Value} {a : Act} {L : Nat → Prop} (h : ∀ j, ¬ L j) : Agrees ops L f a a :=
  ⟨rfl, rfl, fun j t hj => absurd hj (h j), fun t _ => rfl⟩
theorem put_size (a : Act) (d : Option Tmp) (v : Value) : (a.put d v).tmps.size = a.tmps.size := by cases d <;> simp [Act.put]
theorem put_defers (a : Act) (d : Option Tmp) (v : Value) : (a.put d v).defers = a.defers := by cases d <;> rfl
theorem put_get (a : Act) (d : Option Tmp) (v : Value) (t : Nat) : (a.put d v).tmps[t]? = if d = some t ∧ t < a.tmps.size then some v else a.tmps[t]? := by
  cases d with
  | none => simp [Act.put]
  | some d =>
    simp only [Act.put, Option.some.injEq]
    by_cases h : d = t
    · subst h
      by_cases hs : d < a.tmps.size
      · simp [hs]
      · simp [hs]
    · simp [h, Array.getElem?_setIfInBounds_ne h]

/-- No two of these write one slot. -/
def Own (ops : Array Oper) : Prop := ∀ i j t, dstAt ops i = some t → dstAt ops j = some t → i = j
theorem Agrees.step {ops : Array Oper} (ho : Own ops) {L L' : Nat → Prop} {f f' : Nat → Value} {a a' : Act} (h : Agrees ops L f a a') (i : Nat) (v : Value)
    (hL : ∀ j, L' j ↔ (j = i ∨ L j)) (hf : ∀ j, j ≠ i → L j → f' j = f j) (hi : f' i = v) : Agrees ops L' f' a (a'.put (dstAt ops i) v) := by
  refine ⟨by rw [put_defers]; exact h.defers, by rw [put_size]; exact h.size, fun j t hj hd ht => ?_, fun t hn => ?_⟩
  · rw [put_get]
    by_cases e : dstAt ops i = some t
    · have hij := ho i j t e hd
      subst hij
      rw [if_pos ⟨e, by rw [h.size]; exact ht⟩, hi]
    · rw [if_neg (fun x => e x.1)]
      have hji : j ≠ i := fun e2 => e (e2 ▸ hd)
      have hLj := ((hL j).1 hj).resolve_left hji
      rw [h.put j t hLj hd ht, hf j hji hLj]
  · rw [put_get, if_neg (fun x => hn i ((hL i).2 (.inl rfl)) x.1)]
    exact h.same t fun j hj => hn j ((hL j).2 (.inr hj))
theorem Agrees.congr {ops : Array Oper} {L L' : Nat → Prop} {f f' : Nat → Value} {a a' : Act} (h : Agrees ops L f a a') (hL : ∀ j, L j ↔ L' j) (hf : ∀ j, L j → f j = f' j) : Agrees ops L' f' a a' :=
  ⟨h.defers, h.size, fun j t hj hd ht => by rw [← hf j ((hL j).2 hj)]; exact h.put j t ((hL j).2 hj) hd ht, fun t hn => h.same t fun j hj => hn j ((hL j).1 hj)⟩
theorem Agrees.puts {ops : Array Oper} (ho : Own ops) {f : Nat → Value} {a : Act} : ∀ (l : List Nat) {L : Nat → Prop} {a' : Act}, Agrees ops L f a a' → Agrees ops (fun j => j ∈ l ∨ L j) f a (putDeps ops f l a')
  | [], L, a', h => h.congr (by simp) (fun _ _ => rfl)
  | i :: l, L, a', h => by
    have h1 := h.step ho (L' := fun j => j = i ∨ L j) (f' := f) i (f i) (fun j => Iff.rfl) (fun _ _ _ => rfl) rfl
    have h2 := Agrees.puts ho l h1
    exact h2.congr (fun j => by simp only [List.mem_cons]; exact ⟨fun h => h.elim (fun h => .inl (.inr h)) (fun h => h.elim (fun h => .inl (.inl h)) .inr), fun h => h.elim (fun h => h.elim (fun h => .inr (.inl h)) .inl) (fun h => .inr (.inr h))⟩) (fun _ _ => rfl)
theorem Agrees.of {ops : Array Oper} (ho : Own ops) (f : Nat → Value) (a : Act) (l : List Nat) : Agrees ops (· ∈ l) f a (putDeps ops f l a) :=
  (Agrees.puts ho l (Agrees.start (L := fun _ => False) (fun _ h => h))).congr (by simp) (fun _ _ => rfl)
theorem Agrees.unique {ops : Array Oper} {L : Nat → Prop} {f : Nat → Value} {a a' a'' : Act} (h : Agrees ops L f a a') (k : Agrees ops L f a a'') : a' = a'' := by
  have ht : a'.tmps = a''.tmps := by
    apply Array.ext_getElem?
    intro t
    by_cases ht : t < a.tmps.size
    · by_cases e : ∃ j, L j ∧ dstAt ops j = some t
      · obtain ⟨j, hj, hd⟩ := e
        rw [h.put j t hj hd ht, k.put j t hj hd ht]
      · have hn : ∀ j, L j → dstAt ops j ≠ some t := fun j hj hd => e ⟨j, hj, hd⟩
        rw [h.same t hn, k.same t hn]
    · rw [Array.getElem?_eq_none (by rw [h.size]; omega), Array.getElem?_eq_none (by rw [k.size]; omega)]
  have hd : a'.defers = a''.defers := by rw [h.defers, k.defers]
  cases a'; cases a''
  simp only at ht hd
  rw [ht, hd]

theorem eval_slots {a a' : Act} {x : Operand} (h : ∀ t, x = .tmp t → a'.tmps[t]? = a.tmps[t]?) : a'.eval x = a.eval x := by
  cases x with
  | tmp t => have := h t rfl; simp [Act.eval, Array.getD_eq_getD_getElem?, this]
  | _ => rfl
theorem wanted_slots {ops : Array Oper} {o : Oper} {a a' : Act} (h : ∀ t, t ∈ o.looksAt ops → a'.tmps[t]? = a.tmps[t]?) : Region.wanted o (yielded ops a'.tmps) = Region.wanted o (yielded ops a.tmps) := by
  unfold Region.wanted
  cases hg : o.guard with
  | none => rfl
  | some gw =>
    obtain ⟨g, want⟩ := gw
    have hy : yielded ops a'.tmps g = yielded ops a.tmps g := by
      unfold yielded
      cases ht : (ops[g]?).bind (·.dst) with
      | none => rfl
      | some t =>
        have := h t (by simp [Oper.looksAt, hg, ht])
        simp [this]
    simp only [hy]
theorem exec_slots {ops : Array Oper} {o : Oper} {a a' : Act} (hs : ∀ cs b, o.op ≠ .select cs b) (h : ∀ t, t ∈ o.looksAt ops → a'.tmps[t]? = a.tmps[t]?) : execOp a'.eval o = execOp a.eval o :=
  execOp_congr o hs fun x hx => eval_slots fun t ht => h t (by subst ht; exact List.mem_append_left _ (List.mem_filterMap.2 ⟨.tmp t, by simpa using hx, rfl⟩))

section
variable {P : Program} {ops : Array Oper} {md : Region.Mode}

/-- What is shown of one operation: from the act with what it waits for. -/
def Does (P : Program) (ops : Array Oper) (o : Oper) (a : Act) (w : World) (R : Value → World → Prop) : Prop :=
  ∀ K : Act → World → Prop, (∀ v w', R v w' → K (a.put o.dst v) w') → if Region.wanted o (yielded ops a.tmps) then Oper.wp P o a w K (fun _ _ _ => False) else K (a.put o.dst undef) w

theorem put_put {a a' : Act} {d : Option Tmp} {u v : Value} (hs : a'.tmps.size = a.tmps.size) (h : a.put d u = a.put d v) : a'.put d u = a'.put d v := by
  cases d with
  | none => rfl
  | some d =>
    by_cases hd : d < a.tmps.size
    · have h1 := congrArg (fun x : Act => x.tmps[d]?) h
      simp only [put_get, hd, and_self, if_true, Option.some.injEq] at h1
      rw [h1]
    · simp only [Act.put]
      rw [Array.setIfInBounds_eq_of_size_le (by rw [hs]; exact Nat.le_of_not_lt hd), Array.setIfInBounds_eq_of_size_le (by rw [hs]; exact Nat.le_of_not_lt hd)]

theorem Does.wpOp {Q : Exit → Act → World → Prop} {i : Nat} {o : Oper} (hi : ops[i]? = some o) (hs : ∀ cs b, o.op ≠ .select cs b) {a a' : Act} {w : World} {R : Value → World → Prop} (hsz : a'.tmps.size = a.tmps.size)
    (hl : ∀ t, t ∈ o.looksAt ops → a'.tmps[t]? = a.tmps[t]?) (h : Does P ops o a w R) {K : Act → World → Prop} (hK : ∀ v w', R v w' → K (a'.put o.dst v) w') : wpOp P ops Q i K a' w := by
  unfold Go.wpOp
  simp only [hi]
  have h := h (fun a1 w1 => ∃ v, a1 = a.put o.dst v ∧ R v w1) (fun v w' hr => ⟨v, rfl, hr⟩)
  rw [wanted_slots hl]
  by_cases hw : Region.wanted o (yielded ops a.tmps) = true
  · rw [if_pos hw] at h ⊢
    refine .inl ?_
    unfold Oper.wp at *
    rw [exec_slots hs hl]
    generalize (execOp a.eval o).run P w = r at *
    cases r with
    | ok n w' =>
      cases n <;> simp only [Oper.upon] at h ⊢
      case value u => obtain ⟨v, he, hr⟩ := h; rw [put_put hsz he]; exact hK v _ hr
      case skip => obtain ⟨v, he, hr⟩ := h; rw [put_put hsz he]; exact hK v _ hr
      case defer d =>
        obtain ⟨v, he, hr⟩ := h
        have h1 := congrArg (fun x : Act => x.defers.length) he
        simp [put_defers] at h1
      case enter f args =>
        refine Calls.mono h fun e w'' he => ?_
        cases e with
        | returned u => obtain ⟨v, he, hr⟩ := he; show K (a'.put o.dst u) w''; rw [put_put hsz he]; exact hK v _ hr
        | panicked c => exact False.elim he
        | outgrown => obtain ⟨_, _, hf⟩ := he; exact False.elim hf
      case row row args => exact Rows.mono h fun u w'' he => by obtain ⟨v, he, hr⟩ := he; rw [put_put hsz he]; exact hK v _ hr
    | halt x w' =>
      cases x <;> simp only [Oper.upon] at h ⊢
  · rw [if_neg hw] at h ⊢
    obtain ⟨v, he, hr⟩ := h
    rw [put_put hsz he]
    exact hK v _ hr

theorem restr_upd {f : Nat → Value} {l : List Nat} {i : Nat} {v : Value} (h : l.contains i = false) : restr (upd f i v) l = restr f l := by
  funext k
  unfold restr upd
  by_cases e : k = i
  · subst e; rw [h]; simp
  · simp [e]

/-- What holds of an operation that has run. -/
abbrev Facts := Nat → (Nat → Value) → World → Prop

theorem ordB_own (h : ordB md ops = true) : Own ops := by
  intro i j t hi hj
  by_cases hij : i = j
  · exact hij
  · exfalso
    have hi' : i < ops.size := by
      rcases Nat.lt_or_ge i ops.size with h | h
      · exact h
      · simp [dstAt, Array.getElem?_eq_none h] at hi
    have hj' : j < ops.size := by
      rcases Nat.lt_or_ge j ops.size with h | h
      · exact h
      · simp [dstAt, Array.getElem?_eq_none h] at hj
    have h1 := List.all_eq_true.1 h i (List.mem_range.2 hi')
    rw [Array.getElem?_eq_getElem hi'] at h1
    simp only [Bool.and_eq_true] at h1
    have h2 := List.all_eq_true.1 h1.2 j (List.mem_range.2 hj')
    rw [hj] at h2
    simp only [Bool.and_eq_true] at h2
    have h3 := h2.1.1
    simp [hi] at h3
    exact hij h3.symm

theorem ordB_deps (h : ordB md ops = true) {i : Nat} {o : Oper} (hi : ops[i]? = some o) : (∀ cs b, o.op ≠ .select cs b) ∧ (∀ j ∈ depsOf md o, j < i) ∧
    ∀ j t, j < ops.size → dstAt ops j = some t → (t ∈ o.looksAt ops → j = i ∨ j ∈ depsOf md o ∨ i ∈ depsAt md ops j) ∧ ¬ (j ∈ depsOf md o ∧ i ∈ depsAt md ops j) := by
  have hi' : i < ops.size := (Array.getElem?_eq_some_iff.1 hi).1
  have h1 := List.all_eq_true.1 h i (List.mem_range.2 hi')
  rw [hi] at h1
  simp only [Bool.and_eq_true] at h1
  refine ⟨fun cs b e => ?_, fun j hj => ?_, fun j t hj hd => ?_⟩
  · have := h1.1.1
    rw [e] at this
    simp at this
  · have := List.all_eq_true.1 h1.1.2 j hj
    simpa using this
  · have h2 := List.all_eq_true.1 h1.2 j (List.mem_range.2 hj)
    rw [hd] at h2
    simp only [Bool.and_eq_true] at h2
    refine ⟨fun ht => ?_, fun hx => ?_⟩
    · have h3 := h2.1.2
      simp only [Bool.or_eq_true, Bool.not_eq_true', List.contains_iff_mem, beq_iff_eq] at h3
      rcases h3 with ((h3 | h3) | h3) | h3
      · rw [← List.contains_iff_mem] at ht; rw [ht] at h3; cases h3
      · exact .inl h3
      · exact .inr (.inl h3)
      · exact .inr (.inr h3)
    · have h3 := h2.2
      simp only [Bool.not_eq_true', Bool.and_eq_false_iff] at h3
      rcases h3 with h3 | h3
      · have := List.contains_iff_mem.2 hx.1; rw [this] at h3; cases h3
      · have := List.contains_iff_mem.2 hx.2; rw [this] at h3; cases h3

theorem all_listed (hb : ordB md ops = true) {listed : Array Bool} (hsz : listed.size = ops.size) (hr : Region.ready md ops listed = []) : ∀ j, j < ops.size → listed.getD j false = true := by
  intro j
  induction j using Nat.strongRecOn with
  | _ j ih =>
    intro hj
    by_cases hl : listed.getD j false = true
    · exact hl
    · exfalso
      have ho : ops[j]? = some ops[j] := Array.getElem?_eq_getElem hj
      have hd := (ordB_deps hb ho).2.1
      have : j ∈ Region.ready md ops listed := by
        refine mem_ready.2 ⟨?_, _, ho, fun e he hbd => ?_⟩
        · rw [Array.getD_eq_getD_getElem?, Array.getElem?_eq_getElem (by omega)] at hl ⊢
          simpa using hl
        · have hm : e.on ∈ depsOf md ops[j] := List.mem_map.2 ⟨e, List.mem_filter.2 ⟨by simpa using he, hbd⟩, rfl⟩
          have := hd _ hm
          exact ih _ this (by omega)
      rw [hr] at this
      cases this

theorem depsAt_eq {i : Nat} {o : Oper} (hi : ops[i]? = some o) : depsAt md ops i = depsOf md o := by simp [depsAt, hi]
theorem depsAt_none {i : Nat} (hi : ops.size ≤ i) : depsAt md ops i = [] := by simp [depsAt, Array.getElem?_eq_none hi]

/-- The law. G holds throughout, said of which operations have run; what is shown of an operation (F) bears what others do to the world (R). -/
theorem wpAny_facts {Q : Exit → Act → World → Prop} (hb : ordB md ops = true) (a : Act) (G : (Nat → Bool) → World → Prop) (F : Facts) (R : Nat → (Nat → Value) → World → World → Prop)
    (hF : ∀ i f w w' j g, R i f w w' → j ≠ i → F j g w → F j g w')
    (hstep : ∀ i o, ops[i]? = some o → ∀ L f w, L i = false → (∀ j, i ∈ depsAt md ops j → L j = false) → G L w → (∀ j ∈ depsOf md o, F j (restr f (j :: depsAt md ops j)) w) →
      Does P ops o (putDeps ops f (depsOf md o) a) w fun v w' => R i (restr f (depsOf md o)) w w' ∧ G (upd L i true) w' ∧ F i (restr (upd f i v) (i :: depsOf md o)) w')
    (hend : ∀ L f w, (∀ j, L j = decide (j < ops.size)) → G L w → (∀ j, j < ops.size → F j (restr f (j :: depsAt md ops j)) w) → Q .normal (putDeps ops f (List.range ops.size) a) w) :
    ∀ (fuel : Nat) (listed : Array Bool) (f : Nat → Value) (a' : Act) (w : World), listed.size = ops.size → (listed.toList.countP (fun b => !b) ≤ fuel) →
      (∀ j, listed.getD j false = true → ∀ k ∈ depsAt md ops j, listed.getD k false = true) →
      Agrees ops (fun j => listed.getD j false = true) f a a' → G (fun j => listed.getD j false) w → (∀ j, listed.getD j false = true → F j (restr f (j :: depsAt md ops j)) w) → wpAny P md ops Q fuel listed a' w := by
  have ho := ordB_own hb
  have fin : ∀ (listed : Array Bool) (f : Nat → Value) (a' : Act) (w : World), listed.size = ops.size → Region.ready md ops listed = [] →
      Agrees ops (fun j => listed.getD j false = true) f a a' → G (fun j => listed.getD j false) w → (∀ j, listed.getD j false = true → F j (restr f (j :: depsAt md ops j)) w) → Q .normal a' w := by
    intro listed f a' w hsz hr hag hg hf
    have hl := all_listed hb hsz hr
    have hout : ∀ j, listed.getD j false = true → j < ops.size := by
      intro j h
      rcases Nat.lt_or_ge j ops.size with h' | h'
      · exact h'
      · simp [Array.getElem?_eq_none (by omega : listed.size ≤ j)] at h
    have e : a' = putDeps ops f (List.range ops.size) a := by
      refine hag.unique ((Agrees.of ho f a (List.range ops.size)).congr (fun j => ?_) (fun _ _ => rfl))
      rw [List.mem_range]
      exact ⟨hl j, hout j⟩
    rw [e]
    refine hend _ f w (fun j => ?_) hg fun j hj => hf j (hl j hj)
    by_cases hj : j < ops.size
    · rw [hl j hj]; simp [hj]
    · have : ¬ listed.getD j false = true := fun h => hj (hout j h)
      rw [Bool.not_eq_true] at this
      rw [this]; simp [hj]
  intro fuel
  induction fuel with
  | zero =>
    intro listed f a' w hsz hc hcl hag hg hf
    have hr : Region.ready md ops listed = [] := by
      rw [List.eq_nil_iff_forall_not_mem]
      intro j hj
      obtain ⟨h0, o, hoj, _⟩ := mem_ready.1 hj
      have hjs : j < ops.size := (Array.getElem?_eq_some_iff.1 hoj).1
      have hc0 : listed.toList.countP (fun b => !b) = 0 := by omega
      rw [List.countP_eq_zero] at hc0
      have h1 := hc0 listed[j] (by simp)
      rw [Array.getD_eq_getD_getElem?, Array.getElem?_eq_getElem (by omega)] at h0
      simp only [Option.getD_some] at h0
      rw [h0] at h1
      exact h1 rfl
    exact ⟨hr, fin listed f a' w hsz hr hag hg hf⟩
  | succ fuel ih =>
    intro listed f a' w hsz hc hcl hag hg hf
    refine ⟨fun hr => fin listed f a' w hsz hr hag hg hf, fun i hi => ?_⟩
    obtain ⟨h0, o, hoi, hdep⟩ := mem_ready.1 hi
    have his : i < ops.size := (Array.getElem?_eq_some_iff.1 hoi).1
    obtain ⟨hsel, hlt, hlook⟩ := ordB_deps hb hoi
    have hdl : ∀ j ∈ depsOf md o, listed.getD j false = true := by
      intro j hj
      obtain ⟨e, he, rfl⟩ := List.mem_map.1 hj
      obtain ⟨he1, he2⟩ := List.mem_filter.1 he
      exact hdep e (by simpa using he1) he2
    have hun : ¬ listed.getD i false = true := by
      intro h
      rw [Array.getD_eq_getD_getElem?, Array.getElem?_eq_getElem (by omega)] at h0 h
      simp only [Option.getD_some] at h0 h
      rw [h0] at h
      cases h
    have hA := Agrees.of ho f a (depsOf md o)
    have hdst : o.dst = dstAt ops i := by simp [dstAt, hoi]
    have hset : ∀ j, (listed.setIfInBounds i true).getD j false = upd (fun j => listed.getD j false) i true j := by
      intro j
      unfold upd
      by_cases e : j = i
      · subst e
        simp [Array.getD_eq_getD_getElem?, hsz, his]
      · rw [getD_set_ne false (fun h => e h.symm), if_neg e]
    refine Does.wpOp hoi hsel (a := putDeps ops f (depsOf md o) a) (by rw [hag.size, hA.size]) (fun t ht => ?_)
      (hstep i o hoi (fun j => listed.getD j false) f w (by simpa using hun) (fun j hj => by
        rw [← Bool.not_eq_true]
        exact fun h => hun (hcl j h i hj)) hg fun j hj => hf j (hdl j hj)) fun v w' hR => ?_
    · by_cases hts : t < a.tmps.size
      · by_cases e : ∃ j, dstAt ops j = some t
        · obtain ⟨j, hd⟩ := e
          have hj' : j < ops.size := by
            rcases Nat.lt_or_ge j ops.size with h | h
            · exact h
            · simp [dstAt, Array.getElem?_eq_none h] at hd
          have hl := hlook j t hj' hd
          by_cases hjd : j ∈ depsOf md o
          · rw [hag.put j t (hdl j hjd) hd hts, hA.put j t hjd hd hts]
          · have hjl : ¬ listed.getD j false = true := by
              intro hjl
              rcases hl.1 ht with h | h | h
              · exact hun (h ▸ hjl)
              · exact hjd h
              · exact hun (hcl j hjl i h)
            rw [hag.same t (fun k hk hkd => hjl (ho k j t hkd hd ▸ hk)), hA.same t (fun k hk hkd => hjd (ho k j t hkd hd ▸ hk))]
        · have hn : ∀ j, dstAt ops j ≠ some t := fun j hj => e ⟨j, hj⟩
          rw [hag.same t (fun j _ => hn j), hA.same t (fun j _ => hn j)]
      · rw [Array.getElem?_eq_none (by rw [hag.size]; exact Nat.le_of_not_lt hts), Array.getElem?_eq_none (by rw [hA.size]; exact Nat.le_of_not_lt hts)]
    · obtain ⟨hR1, hR3, hR2⟩ := hR
      have hset' : ∀ j, (listed.setIfInBounds i true).getD j false = true ↔ (j = i ∨ listed.getD j false = true) := by
        intro j
        rw [hset j]
        unfold upd
        by_cases e : j = i <;> simp [e]
      rw [hdst]
      refine ih (listed.setIfInBounds i true) (upd f i v) _ w' (by simp [hsz]) ?_ ?_ ?_ (by rw [show (fun j => (listed.setIfInBounds i true).getD j false) = upd (fun j => listed.getD j false) i true from funext hset]; exact hR3) ?_
      · have hc2 : (listed.setIfInBounds i true).toList.countP (fun b => !b) + 1 ≤ listed.toList.countP (fun b => !b) := by
          rw [Array.toList_setIfInBounds]
          have hlen : i < listed.toList.length := by simpa [hsz] using his
          have hli : listed.toList[i] = false := by
            rw [Array.getD_eq_getD_getElem?, Array.getElem?_eq_getElem (by omega)] at h0
            simpa using h0
          rw [List.countP_set hlen, hli]
          have : 0 < listed.toList.countP (fun b => !b) := List.countP_pos_iff.2 ⟨false, by rw [← hli]; exact List.getElem_mem _, rfl⟩
          simp only [Bool.not_false, Bool.not_true, if_true, Bool.false_eq_true, if_false]
          omega
        omega
      · intro j hj k hk
        rw [hset'] at hj ⊢
        rcases hj with rfl | hj
        · rw [depsAt_eq hoi] at hk
          exact .inr (hdl k hk)
        · exact .inr (hcl j hj k hk)
      · exact hag.step ho i v hset' (fun j hji _ => by simp [upd, hji]) (by simp [upd])
      · intro j hj
        rw [hset'] at hj
        by_cases e : j = i
        · subst e
          rw [depsAt_eq hoi]
          exact hR2
        · have hjl := hj.resolve_left e
          have hnc : (j :: depsAt md ops j).contains i = false := by
            rw [← Bool.not_eq_true, List.contains_iff_mem, List.mem_cons]
            rintro (h | h)
            · exact e h.symm
            · exact hun (hcl j hjl i h)
          rw [restr_upd hnc]
          exact hF i _ w w' j _ hR1 e (hf j hjl)

/-- The acts, by a list of slots. -/
def putL (ds : List (Option Tmp)) (f : Nat → Value) : List Nat → Act → Act
  | [], a => a
  | j :: l, a => putL ds f l (a.put (ds[j]?.join) (f j))
theorem putL_eq {ds : List (Option Tmp)} (h : ops.toList.map (·.dst) = ds) (f : Nat → Value) : ∀ (l : List Nat) (a : Act), putDeps ops f l a = putL ds f l a
  | [], a => rfl
  | j :: l, a => by
    have e : dstAt ops j = ds[j]?.join := by
      subst h
      simp only [dstAt, List.getElem?_map, Array.getElem?_toList]
      cases ops[j]? <;> rfl
    simp only [putDeps, putL, e, putL_eq h f l]
/-- What holds of those that an operation waits for. -/
def HypL (F : Facts) (dl : List (List Nat)) (f : Nat → Value) (w : World) : List Nat → Prop
  | [] => True
  | j :: l => F j (restr f (j :: (dl[j]?).getD [])) w ∧ HypL F dl f w l
theorem HypL.of {F : Facts} {dl : List (List Nat)} {f : Nat → Value} {w : World} : ∀ (l : List Nat), (∀ j ∈ l, F j (restr f (j :: (dl[j]?).getD [])) w) → HypL F dl f w l
  | [], _ => trivial
  | j :: l, h => ⟨h j (by simp), HypL.of l fun k hk => h k (by simp [hk])⟩
/-- Each operation's own step: s is the one that writes, G of whether it has run. -/
def StepL (P : Program) (ops : Array Oper) (ds : List (Option Tmp)) (dl : List (List Nat)) (s : Nat) (a : Act) (G : Bool → World → Prop) (F : Facts) (S : (Nat → Value) → World → World → Prop) : Nat → List Oper → Prop
  | _, [] => True
  | k, o :: l => (if k = s then ∀ f w, G false w → HypL F dl f w ((dl[k]?).getD []) → Does P ops o (putL ds f ((dl[k]?).getD []) a) w fun v w' => S (restr f ((dl[k]?).getD [])) w w' ∧ G true w' ∧ F k (restr (upd f k v) (k :: (dl[k]?).getD [])) w'
      else ∀ b f w, (((dl[s]?).getD []).contains k = true → b = false) → G b w → HypL F dl f w ((dl[k]?).getD []) → Does P ops o (putL ds f ((dl[k]?).getD []) a) w fun v w' => Below w.heap.size w w' ∧ F k (restr (upd f k v) (k :: (dl[k]?).getD [])) w') ∧ StepL P ops ds dl s a G F S (k + 1) l
theorem StepL.at {ds : List (Option Tmp)} {dl : List (List Nat)} {s : Nat} {a : Act} {G : Bool → World → Prop} {F : Facts} {S : (Nat → Value) → World → World → Prop} : ∀ (l : List Oper) (k : Nat), StepL P ops ds dl s a G F S k l → ∀ i o, l[i]? = some o →
    (if k + i = s then ∀ f w, G false w → HypL F dl f w ((dl[k + i]?).getD []) → Does P ops o (putL ds f ((dl[k + i]?).getD []) a) w fun v w' => S (restr f ((dl[k + i]?).getD [])) w w' ∧ G true w' ∧ F (k + i) (restr (upd f (k + i) v) ((k + i) :: (dl[k + i]?).getD [])) w'
      else ∀ b f w, (((dl[s]?).getD []).contains (k + i) = true → b = false) → G b w → HypL F dl f w ((dl[k + i]?).getD []) → Does P ops o (putL ds f ((dl[k + i]?).getD []) a) w fun v w' => Below w.heap.size w w' ∧ F (k + i) (restr (upd f (k + i) v) ((k + i) :: (dl[k + i]?).getD [])) w')
  | [], k, _, i, o, h => by simp at h
  | x :: l, k, hs, 0, o, h => by
    simp only [List.getElem?_cons_zero, Option.some.injEq] at h
    subst h
    exact hs.1
  | x :: l, k, hs, i + 1, o, h => by
    have := StepL.at l (k + 1) hs.2 i o (by simpa using h)
    rw [show k + (i + 1) = k + 1 + i by omega]
    exact this

theorem Does.mono {o : Oper} {a : Act} {w : World} {R R' : Value → World → Prop} (h : Does P ops o a w R) (hr : ∀ v w', R v w' → R' v w') : Does P ops o a w R' := fun K hK => h K fun v w' hv => hK v w' (hr v w' hv)

/-- The law as it is used: of a region whose order is drawn, and that writes by one operation (s) at most. -/
theorem wp_region_ord {Q : Exit → Act → World → Prop} {id : Nat} {a : Act} {w : World} (dl : List (List Nat)) (ds : List (Option Tmp)) (s : Nat) (G : Bool → World → Prop) (F : Facts) (S : (Nat → Value) → World → World → Prop)
    (hm : P.follows .mixedOrders = true) (hb : ordB .any ops = true) (hdl : ops.toList.map (depsOf .any) = dl) (hds : ops.toList.map (·.dst) = ds)
    (hGB : ∀ b w w', Below w.heap.size w w' → G b w → G b w')
    (hFB : ∀ j g w w', Below w.heap.size w w' → F j g w → F j g w')
    (hFS : ∀ j g f w w', j ≠ s → S f w w' → F j g w → F j g w')
    (h0 : G false w.drew)
    (hstep : StepL P ops ds dl s a G F S 0 ops.toList)
    (hend : ∀ f w, G (decide (s < dl.length)) w → HypL F dl f w (List.range dl.length) → Q .normal (putL ds f (List.range dl.length) a) w) :
    (Code.region id ops true).wp P Q a w := by
  have hlen : dl.length = ops.size := by subst hdl; simp
  have hda : ∀ j, depsAt .any ops j = (dl[j]?).getD [] := by
    intro j
    subst hdl
    simp only [depsAt, List.getElem?_map, Array.getElem?_toList]
  refine wp_region_any hm (wpAny_facts hb a (fun L => G (L s)) F (fun i f w w' => if i = s then S f w w' else Below w.heap.size w w')
    (fun i f w w' j g hR hji hf => ?_) (fun i o hoi L f w hLi hLd hg hd => ?_) (fun L f w hL hg hf => ?_) ops.size (Array.replicate ops.size false) (fun _ => undef) a w.drew (by simp) (by
      have := List.countP_le_length (p := fun b => !b) (l := (Array.replicate ops.size false).toList)
      simpa using this)
    (fun j hj => by simp [Array.getD_eq_getD_getElem?, Array.getElem?_replicate] at hj; split at hj <;> simp_all)
    (Agrees.start fun j hj => by simp [Array.getD_eq_getD_getElem?, Array.getElem?_replicate] at hj; split at hj <;> simp_all)
    (by
      have : (Array.replicate ops.size false).getD s false = false := by
        simp [Array.getD_eq_getD_getElem?, Array.getElem?_replicate]
        split <;> rfl
      show G ((Array.replicate ops.size false).getD s false) w.drew
      rw [this]; exact h0)
    (fun j hj => by simp [Array.getD_eq_getD_getElem?, Array.getElem?_replicate] at hj; split at hj <;> simp_all))
  · by_cases e : i = s
    · rw [if_pos e] at hR
      exact hFS j g f w w' (e ▸ hji) hR hf
    · rw [if_neg e] at hR
      exact hFB j g w w' hR hf
  · have hk := StepL.at ops.toList 0 hstep i o (by simpa using hoi)
    rw [Nat.zero_add] at hk
    have hdo : depsOf .any o = (dl[i]?).getD [] := by rw [← hda i, depsAt_eq hoi]
    rw [hdo] at hd ⊢
    rw [putL_eq hds]
    have hH : HypL F dl f w ((dl[i]?).getD []) := HypL.of _ fun j hj => by have := hd j hj; rwa [hda j] at this
    by_cases e : i = s
    · rw [if_pos e] at hk
      have hg' : G false w := by rw [← hLi, e]; exact hg
      refine (hk f w hg' hH).mono fun v w' h => ⟨by rw [if_pos e]; exact h.1, ?_, h.2.2⟩
      show G (upd L i true s) w'
      rw [upd, if_pos e.symm]
      exact h.2.1
    · rw [if_neg e] at hk
      refine (hk (L s) f w (fun h => hLd s (by rw [hda s]; simpa using h)) hg hH).mono fun v w' h => ⟨by rw [if_neg e]; exact h.1, ?_, h.2⟩
      show G (upd L i true s) w'
      rw [upd, if_neg (fun h => e h.symm)]
      exact hGB _ _ _ h.1 hg
  · rw [putL_eq hds, ← hlen]
    refine hend f w ?_ (HypL.of _ fun j hj => ?_)
    · have := hL s
      rw [← hlen] at this
      rw [← this]
      exact hg
    · have := hf j (by rw [← hlen]; simpa using hj)
      rwa [hda j] at this
end
end Go.Proofs.YthefddclefimoaaDoor
