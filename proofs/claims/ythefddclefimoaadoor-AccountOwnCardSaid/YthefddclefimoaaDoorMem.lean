/- Memory: blocks of the call's own; slices whose elements are rows of cells, read off the call's own blocks; the operations that touch memory. No program stands here. -/
import Derived.Test.YthefddclefimoaaDoorSxC
import Derived.Deep.MidRow
import Derived.Laws.MakeOwn
namespace Go.Proofs.YthefddclefimoaaDoor
open Go.RowKit
set_option linter.unusedVariables false
set_option linter.unusedSimpArgs false

/-- One block has been written to, and nothing else has changed. -/
structure Only (B : Nat) (w w' : World) : Prop where
  os : w'.os = w.os
  tape : w'.tape = w.tape
  output : w'.output = w.output
  size : w'.heap.size = w.heap.size
  block : ∀ k, k ≠ B → w'.heap[k]? = w.heap[k]?
theorem Only.below {n0 B : Nat} {w0 w w' : World} (h : Only B w w') (hb : Below n0 w0 w) (hB : n0 ≤ B) : Below n0 w0 w' :=
  ⟨by rw [h.os]; exact hb.os, by rw [h.tape]; exact hb.tape, by rw [h.output]; exact hb.output, by rw [h.size]; exact hb.size, fun k hk => by rw [h.block k (by omega)]; exact hb.block k hk⟩
theorem only_setRow (w : World) (B : Nat) (cs : Array Value) : Only B w (w.setRow B cs) := ⟨rfl, rfl, rfl, by simp [World.setRow], fun k hk => setRow_other w B k cs hk⟩
/-- What lies off these blocks has stayed. -/
def Agree (L : List Nat) (w w' : World) : Prop := w.heap.size ≤ w'.heap.size ∧ ∀ k, k ∉ L → k < w.heap.size → w'.heap[k]? = w.heap[k]?
theorem Agree.of_below {L : List Nat} {w w' : World} (h : Below w.heap.size w w') : Agree L w w' := ⟨h.size, fun k _ hk => h.block k hk⟩
theorem Agree.of_only {L : List Nat} {B : Nat} {w w' : World} (h : Only B w w') (hB : B ∈ L) : Agree L w w' := ⟨by rw [h.size]; exact Nat.le_refl _, fun k hk _ => h.block k (fun e => hk (e ▸ hB))⟩
/-- A block of the call's own: it may be written. -/
def Blk (w : World) (B : Nat) (cs : List Value) : Prop := ∃ t, w.heap[B]? = some (.cells cs.toArray t (0, 0))
theorem Blk.lt {w : World} {B : Nat} {cs : List Value} (h : Blk w B cs) : B < w.heap.size := by
  obtain ⟨t, h⟩ := h
  exact (Array.getElem?_eq_some_iff.1 h).1
theorem Blk.below {w w' : World} {B : Nat} {cs : List Value} (h : Blk w B cs) (hb : Below w.heap.size w w') : Blk w' B cs := by
  obtain ⟨t, h'⟩ := h
  exact ⟨t, by rw [hb.block B (Blk.lt ⟨t, h'⟩)]; exact h'⟩
theorem Blk.other {w w' : World} {B C : Nat} {cs : List Value} (h : Blk w B cs) (ho : Only C w w') (hn : B ≠ C) : Blk w' B cs := by
  obtain ⟨t, h'⟩ := h
  exact ⟨t, by rw [ho.block B hn]; exact h'⟩
theorem Blk.range {w : World} {B : Nat} {cs : List Value} (h : Blk w B cs) : w.rangeAt B 0 cs := fun j v hj => by
  obtain ⟨t, h⟩ := h
  simp [World.cell?, h, hj]
theorem Blk.part {w : World} {B : Nat} {cs : List Value} (h : Blk w B cs) (o n : Nat) : w.rangeAt B o ((cs.drop o).take n) := fun j v hj => by
  rw [List.getElem?_take] at hj
  split at hj
  · rw [List.getElem?_drop] at hj
    have := h.range (o + j) v hj
    simpa using this
  · cases hj
theorem Blk.partE {w : World} {B : Nat} {cs cs' : List Value} (h : Blk w B cs) {o n : Nat} (he : (cs.drop o).take n = cs') : w.rangeAt B o cs' := he ▸ h.part o n
theorem Blk.cell {w : World} {B k : Nat} {cs : List Value} {v : Value} (h : Blk w B cs) (hk : cs[k]? = some v) : w.cell? ⟨B, k, none⟩ = some v := by simpa using h.range k v hk
theorem range_agree {w w' : World} {L : List Nat} {X o : Nat} {cs : List Value} (h : w.rangeAt X o cs) (ha : Agree L w w') (hX : X ∉ L) : w'.rangeAt X o cs := fun j v hj => by
  have h1 := h j v hj
  have hlt := World.block_lt_of_cell? w _ h1
  rw [← h1]
  exact World.cell?_of_block (ha.2 X hX hlt)
theorem range_lt {w : World} {X o : Nat} {cs : List Value} (h : w.rangeAt X o cs) (hn : 0 < cs.length) : X < w.heap.size :=
  World.block_lt_of_cell? w _ (h 0 _ (List.getElem?_eq_getElem hn))
theorem range_part {w : World} {X o : Nat} {cs : List Value} (h : w.rangeAt X o cs) (p n : Nat) : w.rangeAt X (o + p) ((cs.drop p).take n) := fun j v hj => by
  rw [List.getElem?_take] at hj
  split at hj
  · rw [List.getElem?_drop] at hj
    rw [Nat.add_assoc]
    exact h (p + j) v hj
  · cases hj
/-- A pointer to these cells, off the call's own blocks. -/
def PtR (L : List Nat) (w : World) (u : Value) (cs : List Value) : Prop := 0 < cs.length ∧ ∃ X o, u = .pointer (some ⟨X, o, none⟩) ∧ X ∉ L ∧ w.rangeAt X o cs
theorem PtR.agree {L : List Nat} {w w' : World} {u : Value} {cs : List Value} (h : PtR L w u cs) (ha : Agree L w w') : PtR L w' u cs := by
  obtain ⟨h0, X, o, h1, h2, h3⟩ := h
  exact ⟨h0, X, o, h1, h2, range_agree h3 ha h2⟩
theorem PtR.below {L : List Nat} {w w' : World} {u : Value} {cs : List Value} (h : PtR L w u cs) (hb : Below w.heap.size w w') : PtR L w' u cs := h.agree (.of_below hb)
theorem PtR.less {L L' : List Nat} {w : World} {u : Value} {cs : List Value} (h : PtR L w u cs) (hl : ∀ x, x ∈ L' → x ∈ L) : PtR L' w u cs := by
  obtain ⟨h0, X, o, h1, h2, h3⟩ := h
  exact ⟨h0, X, o, h1, fun hx => h2 (hl X hx), h3⟩
theorem PtR.only {L : List Nat} {w w' : World} {u : Value} {cs : List Value} (h : PtR L w u cs) {B : Nat} (ho : Only B w w') (hB : B ∈ L) : PtR L w' u cs := h.agree (.of_only ho hB)
theorem PtR.more {L : List Nat} {w w' : World} {u : Value} {cs : List Value} (h : PtR L w u cs) (hb : Below w.heap.size w w') {B : Nat} (hB : w.heap.size ≤ B) : PtR (B :: L) w' u cs := by
  have h := h
  obtain ⟨h0, X, o, h1, h2, h3⟩ := h
  have hlt := range_lt h3 h0
  refine ⟨h0, X, o, h1, ?_, range_agree h3 (.of_below (L := L) hb) h2⟩
  simp only [List.mem_cons, not_or]
  exact ⟨by omega, h2⟩
/-- A slice whose elements are these rows, off the call's own blocks. -/
def RdF (s : Nat) (L : List Nat) (w : World) (v : Value) (rs : List (List Value)) : Prop :=
  0 < s ∧ (∀ r ∈ rs, r.length = s) ∧ ∃ a cap, v = .slice a rs.length cap ∧ rs.length ≤ cap ∧ cap ≤ maxLen ∧ (a = none → cap = 0) ∧ (rs ≠ [] → ∃ X o, a = some ⟨X, o, none⟩ ∧ X ∉ L ∧ w.rangeAt X o rs.flatten)
theorem flat_len {s : Nat} : ∀ {rs : List (List Value)}, (∀ r ∈ rs, r.length = s) → rs.flatten.length = rs.length * s
  | [], _ => by simp
  | r :: rs, h => by
    rw [List.flatten_cons, List.length_append, flat_len (fun r hr => h r (List.mem_cons_of_mem _ hr)), h r (by simp), List.length_cons, Nat.succ_mul, Nat.add_comm]
theorem flat_drop {s : Nat} : ∀ {rs : List (List Value)} (i : Nat), (∀ r ∈ rs, r.length = s) → rs.flatten.drop (i * s) = (rs.drop i).flatten
  | rs, 0, _ => by simp
  | [], i + 1, _ => by simp
  | r :: rs, i + 1, h => by
    have hr := h r (by simp)
    rw [List.flatten_cons, Nat.succ_mul, Nat.add_comm, ← List.drop_drop, ← hr, List.drop_left, hr, flat_drop i (fun r hr => h r (List.mem_cons_of_mem _ hr)), List.drop_succ_cons]
theorem flat_take {s : Nat} : ∀ {rs : List (List Value)} (i : Nat), (∀ r ∈ rs, r.length = s) → rs.flatten.take (i * s) = (rs.take i).flatten
  | rs, 0, _ => by simp
  | [], i + 1, _ => by simp
  | r :: rs, i + 1, h => by
    have hr := h r (by simp)
    rw [List.flatten_cons, Nat.succ_mul, Nat.add_comm, List.take_add, ← hr, List.take_left, List.drop_left, hr, flat_take i (fun r hr => h r (List.mem_cons_of_mem _ hr)), List.take_succ_cons, List.flatten_cons]
theorem flat_row {s : Nat} {rs : List (List Value)} {i : Nat} {r : List Value} (h : ∀ r ∈ rs, r.length = s) (hi : rs[i]? = some r) : (rs.flatten.drop (i * s)).take s = r := by
  obtain ⟨hl, he⟩ := List.getElem?_eq_some_iff.1 hi
  have hr := h r (List.mem_of_getElem? hi)
  rw [flat_drop i h, List.drop_eq_getElem_cons hl, he, List.flatten_cons, ← hr, List.take_left]
theorem RdF.agree {s : Nat} {L : List Nat} {w w' : World} {v : Value} {rs : List (List Value)} (h : RdF s L w v rs) (ha : Agree L w w') : RdF s L w' v rs := by
  obtain ⟨h0, hr, a, cap, h1, h2, h3, h4, h5⟩ := h
  refine ⟨h0, hr, a, cap, h1, h2, h3, h4, fun hn => ?_⟩
  obtain ⟨X, o, e, hX, hc⟩ := h5 hn
  exact ⟨X, o, e, hX, range_agree hc ha hX⟩
theorem RdF.below {s : Nat} {L : List Nat} {w w' : World} {v : Value} {rs : List (List Value)} (h : RdF s L w v rs) (hb : Below w.heap.size w w') : RdF s L w' v rs := h.agree (.of_below hb)
theorem RdF.only {s : Nat} {L : List Nat} {w w' : World} {v : Value} {rs : List (List Value)} (h : RdF s L w v rs) {B : Nat} (ho : Only B w w') (hB : B ∈ L) : RdF s L w' v rs := h.agree (.of_only ho hB)
theorem RdF.more {s : Nat} {L : List Nat} {w w' : World} {v : Value} {rs : List (List Value)} (h : RdF s L w v rs) (hb : Below w.heap.size w w') {B : Nat} (hB : w.heap.size ≤ B) : RdF s (B :: L) w' v rs := by
  obtain ⟨h0, hr, a, cap, h1, h2, h3, h4, h5⟩ := h.below hb
  obtain ⟨_, _, a', cap', h1', _, _, _, h5'⟩ := h
  refine ⟨h0, hr, a, cap, h1, h2, h3, h4, fun hn => ?_⟩
  obtain ⟨X, o, e, hX, hc⟩ := h5 hn
  obtain ⟨X', o', e', hX', hc'⟩ := h5' hn
  refine ⟨X, o, e, ?_, hc⟩
  have hlen : 0 < rs.flatten.length := by
    rw [flat_len hr]
    exact Nat.mul_pos (List.length_pos_iff.2 hn) h0
  have hlt := range_lt hc' hlen
  have : X = X' := by rw [h1] at h1'; simp only [Value.slice.injEq] at h1'; rw [e, e'] at h1'; simp at h1'; exact h1'.1.1
  simp only [List.mem_cons, not_or]
  exact ⟨by omega, hX⟩
theorem RdF.less {s : Nat} {L L' : List Nat} {w : World} {v : Value} {rs : List (List Value)} (h : RdF s L w v rs) (hl : ∀ x, x ∈ L' → x ∈ L) : RdF s L' w v rs := by
  obtain ⟨h0, hr, a, cap, h1, h2, h3, h4, h5⟩ := h
  refine ⟨h0, hr, a, cap, h1, h2, h3, h4, fun hn => ?_⟩
  obtain ⟨X, o, e, hX, hc⟩ := h5 hn
  exact ⟨X, o, e, fun hx => hX (hl X hx), hc⟩
theorem RdF.nil {s : Nat} {L : List Nat} {w : World} (hs : 0 < s) : RdF s L w (.slice none 0 0) [] := ⟨hs, by simp, none, 0, rfl, Nat.le_refl _, by unfold maxLen; omega, fun _ => rfl, fun h => absurd rfl h⟩
theorem RdF.len {s : Nat} {L : List Nat} {w : World} {v : Value} {rs : List (List Value)} (h : RdF s L w v rs) : rs.length ≤ maxLen := by
  obtain ⟨_, _, a, cap, _, h2, h3, _⟩ := h
  omega

theorem oc_nil : ∀ v ∈ ([] : List Value), v.oneCell' = true := fun v h => by cases h
theorem oc_cons {v : Value} {l : List Value} (h : v.oneCell' = true) (t : ∀ u ∈ l, u.oneCell' = true) : ∀ u ∈ v :: l, u.oneCell' = true := fun u hu => by
  cases hu with
  | head => exact h
  | tail _ hu => exact t u hu
theorem oc_one {v : Value} (h : v.oneCell' = true) : v.cells.toList = [v] := by cases v <;> simp_all [Value.cells, Value.oneCell']
theorem oc_app {l l' : List Value} (h : ∀ u ∈ l, u.oneCell' = true) (t : ∀ u ∈ l', u.oneCell' = true) : ∀ u ∈ l ++ l', u.oneCell' = true := fun u hu => by
  rcases List.mem_append.1 hu with h1 | h1
  · exact h u h1
  · exact t u h1
theorem RdF.one {s : Nat} {L : List Nat} {w : World} {v : Value} {rs : List (List Value)} (h : RdF s L w v rs) : v.oneCell' = true := by
  obtain ⟨_, _, a, cap, rfl, _⟩ := h
  rfl
-- what is asked of types, as one test each
def aggB (P : Program) (t n : Nat) : Bool := (match P.underlying t with | some (.struct _) => true | some (.array _ _) => true | _ => false) && (match P.info? t with | some i => i.size == n | none => false)
def oneB (P : Program) (t : Nat) : Bool := (match P.underlying t with | none => false | some (.struct _) => false | some (.array _ _) => false | some _ => true) && (match P.info? t with | some i => i.size == 1 | none => false)
def sizeB (P : Program) (t n : Nat) : Bool := match P.info? t with | some i => i.size == n | none => false
def sliceB (P : Program) (t s : Nat) : Bool := match P.underlying t with | some (.slice e) => sizeB P e s | _ => false
/-- A struct's field lies so many cells behind its beginning. -/
def fldB (P : Program) (s : TypeId) (f off : Nat) : Bool := match P.underlying s with
  | some (.struct fs) => match fs[f]? with
    | some fd => fd.offset == off && (match P.info? fd.type with | some i => i.size != 0 | none => false)
    | none => false
  | _ => false
section
variable {P : Program}
theorem of_sizeB {t n : Nat} (h : sizeB P t n = true) : ∃ i, P.info? t = some i ∧ i.size = n := by
  unfold sizeB at h
  split at h
  · rename_i i hi; exact ⟨i, hi, by simpa using h⟩
  · cases h
theorem of_sizeM {t n : Nat} (h : sizeB P t n = true) : (P.info? t).map (·.size) = some n := by
  obtain ⟨i, hi, hn⟩ := of_sizeB h
  rw [hi, ← hn]; rfl
theorem of_aggB {t n : Nat} (h : aggB P t n = true) : ∃ d, P.underlying t = some d ∧ d.isRow = true ∧ (P.info? t).map (·.size) = some n := by
  unfold aggB at h
  simp only [Bool.and_eq_true] at h
  obtain ⟨h1, h2⟩ := h
  have h3 := of_sizeM (P := P) (t := t) (n := n) h2
  split at h1
  · rename_i fs hu; exact ⟨_, hu, rfl, h3⟩
  · rename_i m e hu; exact ⟨_, hu, rfl, h3⟩
  · cases h1
theorem of_oneB {t : Nat} (h : oneB P t = true) : ∃ d, P.underlying t = some d ∧ (match d with | .struct _ | .array _ _ => true | _ => false) = false ∧ (P.info? t).map (·.size) = some 1 := by
  unfold oneB at h
  simp only [Bool.and_eq_true] at h
  obtain ⟨h1, h2⟩ := h
  have h3 := of_sizeM (P := P) (t := t) (n := 1) h2
  split at h1
  · cases h1
  · cases h1
  · cases h1
  · rename_i d hs ha hu
    exact ⟨_, hu, by cases d <;> simp_all, h3⟩
theorem of_sliceB {t s : Nat} (h : sliceB P t s = true) : ∃ e, P.underlying t = some (.slice e) ∧ (P.info? e).map (·.size) = some s := by
  unfold sliceB at h
  split at h
  · rename_i e hu; exact ⟨e, hu, of_sizeM h⟩
  · cases h
theorem addr_at (b o j : Nat) : (⟨b, o, none⟩ : Addr).add j = ⟨b, o + j, none⟩ := Go.Addr.add_mid b o j
theorem run_fldB {w : World} {s : TypeId} {f off : Nat} (hf : fldB P s f off = true) (B o0 : Nat) : (Instr.fieldAt s (.pointer (some ⟨B, o0, none⟩)) f).run P w = .ok (.pointer (some ⟨B, o0 + off, none⟩)) w := by
  unfold fldB at hf
  cases hu : P.underlying s with
  | none => rw [hu] at hf; cases hf
  | some d =>
    rw [hu] at hf
    cases d <;> simp only [Bool.false_eq_true] at hf
    rename_i fs
    cases hfs : fs[f]? with
    | none => rw [hfs] at hf; cases hf
    | some fd =>
      rw [hfs] at hf
      simp only [Bool.and_eq_true, beq_iff_eq] at hf
      obtain ⟨h1, h2⟩ := hf
      subst h1
      cases hi : P.info? fd.type with
      | none => rw [hi] at h2; cases h2
      | some i =>
        rw [hi] at h2
        have hne : i.size ≠ 0 := by simpa using h2
        simp [Instr.fieldAt, fieldPlace, Instr.sureAddr, Sem.run_bind, run_underlying hu w, hfs, sizeOf, typeInfo, hi, hne, addr_at]
theorem run_idxS {w : World} {t e : TypeId} {n c s : Nat} (hu : P.underlying t = some (.slice e)) (hs : (P.info? e).map (·.size) = some s) (X o0 : Nat) (k : IntKind) (i : Int) (h0 : 0 ≤ i) (h1 : i < n) :
    (Instr.indexAt t (.slice (some ⟨X, o0, none⟩) n c) (.int k i)).run P w = .ok (.pointer (some ⟨X, o0 + i.toNat * s, none⟩)) w := by
  cases hi : P.info? e with
  | none => rw [hi] at hs; cases hs
  | some q =>
    have hq : q.size = s := by simpa [hi] using hs
    simp [Instr.indexAt, asIntOf, Sem.run_bind, run_underlying hu w, h0, h1, sizeOf, typeInfo, hi, hq, addr_at]
theorem run_idxA {w : World} {t e : TypeId} {n s : Nat} (hu : P.underlying t = some (.array n e)) (hs : (P.info? e).map (·.size) = some s) (B o0 : Nat) (k : IntKind) (i : Int) (h0 : 0 ≤ i) (h1 : i < n) :
    (Instr.indexAt t (.pointer (some ⟨B, o0, none⟩)) (.int k i)).run P w = .ok (.pointer (some ⟨B, o0 + i.toNat * s, none⟩)) w := by
  cases hi : P.info? e with
  | none => rw [hi] at hs; cases hs
  | some q =>
    have hq : q.size = s := by simpa [hi] using hs
    simp [Instr.indexAt, asIntOf, Instr.sureAddr, Sem.run_bind, run_underlying hu w, h0, h1, sizeOf, typeInfo, hi, hq, addr_at]
end
section
variable {P : Program} {ops : Array Oper} {o : Oper} {N : Nat} {f : Fl} {w : World}
/-- What a new block of the call's own is. -/
def NewB (w : World) (cs : List Value) (u : Value) (W : World) : Prop := u = .pointer (some ⟨w.heap.size, 0, none⟩) ∧ Blk W w.heap.size cs ∧ Below w.heap.size w W ∧ w.heap.size < W.heap.size
theorem newB_alloc (w : World) (t : TypeId) (V : Value) : NewB w V.cells.toList (.pointer (some ⟨w.heap.size, 0, none⟩)) (w.alloc (.cells V.cells t)) :=
  ⟨rfl, ⟨t, by rw [heap_alloc_new]⟩, (Below.refl _ _).alloc (Nat.le_refl _) _, (Array.getElem?_eq_some_iff.1 (heap_alloc_new w _)).1⟩
theorem dx_box {t : TypeId} {x : Operand} {V : Value} {cs : List Value} (ho : o.op = .box t x) (hx : ev f x = some V) (hc : V.cells.toList = cs) (hw : wantF ops o f = some true := by rfl) : DR P ops o N f w (NewB w cs) := fun a ha => by
  have hx := ha.ev hx
  subst hc
  exact Does.of_wp (wantF_of ha hw) fun K hK => by
    unfold Oper.wp execOp
    simp only [ho, hx, Sem.run_bind, Instr.box, newVar, newRow, run_newObj_alloc, Sem.run_pure, Result.andThen_ok]
    exact hK _ _ (newB_alloc w t V)
theorem dx_alloc {t : TypeId} {Z : Value} {cs : List Value} (ho : o.op = .alloc t) (hz : (P.info? t).bind (·.zero) = some Z) (hc : Z.cells.toList = cs) (hw : wantF ops o f = some true := by rfl) : DR P ops o N f w (NewB w cs) := fun a ha => by
  subst hc
  exact Does.of_wp (wantF_of ha hw) fun K hK => by
    cases hi : P.info? t with
    | none => rw [hi] at hz; cases hz
    | some i =>
      rw [hi] at hz
      have hz' : i.zero = some Z := hz
      have hti : (typeInfo t).run P w = .ok i w := by simp [typeInfo, hi]
      unfold Oper.wp execOp
      simp only [ho, Sem.run_bind, Instr.alloc, zeroValue, hti, hz', newVar, newRow, run_newObj_alloc, Sem.run_pure, Result.andThen_ok]
      exact hK _ _ (newB_alloc w t Z)
theorem dx_fld {t : TypeId} {x : Operand} {k off B o0 o1 : Nat} (ho : o.op = .fieldAddr t x k) (hf : fldB P t k off = true) (hx : ev f x = some (.pointer (some ⟨B, o0, none⟩))) (h1 : o0 + off = o1) (hw : wantF ops o f = some true := by rfl) : DV P ops o N f w (.pointer (some ⟨B, o1, none⟩)) := fun a ha => by
  have hx := ha.ev hx
  exact Does.pure (wantF_of ha hw) _ (by unfold execOp; simp only [ho, hx, Sem.run_bind, run_fldB hf, Result.andThen_ok, h1]; rfl) ⟨rfl, rfl⟩
theorem dx_idxA {t e : TypeId} {x y : Operand} {n s B o0 o1 : Nat} {K : IntKind} {i : Int} (ho : o.op = .indexAddr t x y) (hu : P.underlying t = some (.array n e)) (hs : sizeB P e s = true) (hx : ev f x = some (.pointer (some ⟨B, o0, none⟩))) (hy : ev f y = some (.int K i)) (h0 : 0 ≤ i ∧ i < n) (h1 : o0 + i.toNat * s = o1) (hw : wantF ops o f = some true := by rfl) : DV P ops o N f w (.pointer (some ⟨B, o1, none⟩)) := fun a ha => by
  have hx := ha.ev hx
  have hy := ha.ev hy
  exact Does.pure (wantF_of ha hw) _ (by unfold execOp; simp only [ho, hx, hy, Sem.run_bind, run_idxA hu (of_sizeM hs) B o0 K i h0.1 h0.2, Result.andThen_ok, h1]; rfl) ⟨rfl, rfl⟩
theorem dx_load {t : TypeId} {x : Operand} {B o0 : Nat} {v : Value} (ho : o.op = .load t x) (ht : oneB P t = true) (hx : ev f x = some (.pointer (some ⟨B, o0, none⟩))) (hc : w.cell? ⟨B, o0, none⟩ = some v) (hw : wantF ops o f = some true := by rfl) : DV P ops o N f w v := fun a ha => by
  obtain ⟨d, hu, hd, _⟩ := of_oneB ht
  have hx := ha.ev hx
  have hagg : (isAgg t).run P w = .ok false w := by
    unfold isAgg
    rw [Sem.run_bind, run_underlying hu w]
    cases d <;> simp_all
  exact Does.pure (wantF_of ha hw) v (by unfold execOp; simp [ho, hx, Sem.run_bind, Instr.loadAt, Instr.sureAddr, loadVar, hagg, hc]) ⟨rfl, rfl⟩
theorem dx_loadN {t : TypeId} {x : Operand} {B o0 n : Nat} {cs : List Value} (ho : o.op = .load t x) (ht : aggB P t n = true) (hx : ev f x = some (.pointer (some ⟨B, o0, none⟩))) (hc : w.rangeAt B o0 cs) (hn : cs.length = n) (hw : wantF ops o f = some true := by rfl) : DV P ops o N f w (.agg cs.toArray) := fun a ha => by
  obtain ⟨d, hu, hd, hi⟩ := of_aggB ht
  have hx := ha.ev hx
  exact Does.of_wp (wantF_of ha hw) fun K hK => wp_load_mid t x ho B o0 hx cs d hc hu hd (by rw [hi, hn]) (hK _ _ ⟨rfl, rfl⟩)
theorem dx_store {t : TypeId} {x y : Operand} {B o0 n : Nat} {V : Value} {vs cs cs' : List Value} (ho : o.op = .store t x y) (ht : sizeB P t n = true) (hx : ev f x = some (.pointer (some ⟨B, o0, none⟩))) (hy : ev f y = some V) (hv : V.cells.toList = vs) (h1 : ∀ v ∈ vs, v.oneCell' = true)
    (hb : Blk w B cs) (hn : vs.length = n) (hl : o0 + n ≤ cs.length) (hr : cs.take o0 ++ (vs ++ cs.drop (o0 + n)) = cs') (hw : wantF ops o f = some true := by rfl) : DR P ops o N f w fun _ W => Blk W B cs' ∧ Only B w W := fun a ha => by
  obtain ⟨i, hi, hs⟩ := of_sizeB ht
  have hx := ha.ev hx
  have hy := ha.ev hy
  exact Does.of_wp (wantF_of ha hw) fun K hK => by
    obtain ⟨tt, hb'⟩ := hb
    have hst := run_storeCells_at P B o0 tt vs 0 _ w hb' (by simp; omega) h1
    simp only [Nat.add_zero] at hst
    have hcs : (cs.toArray.toList.take o0 ++ vs ++ cs.toArray.toList.drop (o0 + vs.length)) = cs' := by rw [← hr, hn]; simp
    rw [hcs] at hst
    have hsz : V.cells.size = i.size := by rw [← Array.length_toList, hv, hn, hs]
    unfold Oper.wp execOp
    simp only [ho, hx, hy, Instr.storeAt, Instr.sureAddr, storeVar, sizeOf, typeInfo, Sem.run_bind, Sem.run_pure, Result.andThen_ok, run_program, hi, hsz, hv, ne_eq, not_true_eq_false, if_false, hst]
    exact hK _ _ ⟨⟨tt, setRow_heap w B _ _ tt _ hb'⟩, only_setRow w B _⟩
theorem dx_storeW {t : TypeId} {x y : Operand} {B n : Nat} {V : Value} {vs cs : List Value} (ho : o.op = .store t x y) (ht : sizeB P t n = true) (hx : ev f x = some (.pointer (some ⟨B, 0, none⟩))) (hy : ev f y = some V) (hv : V.cells.toList = vs) (h1 : ∀ v ∈ vs, v.oneCell' = true)
    (hb : Blk w B cs) (hn : vs.length = n) (hl : cs.length = n) (hw : wantF ops o f = some true := by rfl) : DR P ops o N f w fun _ W => Blk W B vs ∧ Only B w W :=
  dx_store (cs' := vs) ho ht hx hy hv h1 hb hn (by omega) (by rw [List.drop_eq_nil_of_le (by omega)]; simp) hw
-- slices of rows
theorem dx_lenF {t s s' : Nat} {L : List Nat} {x : Operand} {v : Value} {rs : List (List Value)} (ho : o.op = .call { callee := .builtin .len, args := #[x], argTypes := #[t] }) (ht : sliceB P t s' = true) (hx : ev f x = some v) (hr : RdF s L w v rs) (hw : wantF ops o f = some true := by rfl) : DV P ops o N f w (.int .i64 (rs.length : Int)) := by
  obtain ⟨_, _, a, cap, rfl, _⟩ := hr
  obtain ⟨e, hu, _⟩ := of_sliceB ht
  exact dx_len ho hu hx hw
theorem dx_idxF {t s : Nat} {L : List Nat} {x y : Operand} {v : Value} {rs : List (List Value)} {K : IntKind} {i : Int} {r : List Value} (k : Nat) (ho : o.op = .indexAddr t x y) (ht : sliceB P t s = true) (hx : ev f x = some v) (hy : ev f y = some (.int K i)) (hr : RdF s L w v rs) (hk : i = (k : Int)) (hi : rs[k]? = some r) (hw : wantF ops o f = some true := by rfl) :
    DR P ops o N f w fun u W => w = W ∧ PtR L w u r := fun a ha => by
  obtain ⟨h0, hl, ad, cap, rfl, h2, h3, h4, h5⟩ := hr
  obtain ⟨e, hu, hs⟩ := of_sliceB ht
  have hx := ha.ev hx
  have hy := ha.ev hy
  subst hk
  have hlt := (List.getElem?_eq_some_iff.1 hi).1
  obtain ⟨X, o0, rfl, hX, hc⟩ := h5 (by intro e; subst e; simp at hlt)
  have hrun := run_idxS (w := w) (n := rs.length) (c := cap) hu hs X o0 K (k : Int) (by omega) (by omega)
  refine Does.pure (wantF_of ha hw) (.pointer (some ⟨X, o0 + k * s, none⟩)) (by unfold execOp; simp only [ho, hx, hy, Sem.run_bind, hrun, Result.andThen_ok]; rfl) ⟨rfl, by rw [hl r (List.mem_of_getElem? hi)]; exact h0, X, _, rfl, hX, ?_⟩
  have := range_part hc (k * s) s
  rw [flat_row hl hi] at this
  simpa using this
theorem dx_fldP {t : TypeId} {x : Operand} {k off : Nat} {L : List Nat} {u : Value} {cs cs' : List Value} (n : Nat) (ho : o.op = .fieldAddr t x k) (hf : fldB P t k off = true) (hx : ev f x = some u) (hp : PtR L w u cs) (hr : (cs.drop off).take n = cs') (hn : 0 < cs'.length) (hw : wantF ops o f = some true := by rfl) : DR P ops o N f w fun u' W => w = W ∧ PtR L w u' cs' := fun a ha => by
  obtain ⟨_, X, o0, rfl, hX, hc⟩ := hp
  have hx := ha.ev hx
  refine Does.pure (wantF_of ha hw) _ (by unfold execOp; simp only [ho, hx, Sem.run_bind, run_fldB hf, Result.andThen_ok]; rfl) ⟨rfl, hn, X, _, rfl, hX, ?_⟩
  have := range_part hc off n
  rwa [hr] at this
theorem dx_loadP {t : TypeId} {x : Operand} {L : List Nat} {u v : Value} (ho : o.op = .load t x) (ht : oneB P t = true) (hx : ev f x = some u) (hp : PtR L w u [v]) (hw : wantF ops o f = some true := by rfl) : DV P ops o N f w v := by
  obtain ⟨_, X, o0, rfl, hX, hc⟩ := hp
  exact dx_load ho ht hx (by simpa using hc 0 v rfl) hw
theorem dx_loadPN {t : TypeId} {x : Operand} {n : Nat} {L : List Nat} {u : Value} {cs : List Value} (ho : o.op = .load t x) (ht : aggB P t n = true) (hx : ev f x = some u) (hp : PtR L w u cs) (hn : cs.length = n) (hw : wantF ops o f = some true := by rfl) : DV P ops o N f w (.agg cs.toArray) := by
  obtain ⟨_, X, o0, rfl, hX, hc⟩ := hp
  exact dx_loadN ho ht hx hc hn hw
theorem dx_build {t : TypeId} {parts : Array (Nat × Operand)} {ps : List (Nat × Value)} {cs : List Value} (ho : o.op = .build t parts) (hp : (evl f (parts.toList.map (·.2))).map (fun vs => (parts.toList.map (·.1)).zip vs) = some ps) (hb : P.built t ps = some cs.toArray) (hw : wantF ops o f = some true := by rfl) : DV P ops o N f w (.agg cs.toArray) := fun a ha => by
  have key : (parts.map fun (i, x) => (i, a.eval x)).toList = ps := by
    cases hq : evl f (parts.toList.map (·.2)) with
    | none => rw [hq] at hp; cases hp
    | some vs =>
      rw [hq] at hp
      have h1 := ha.evl hq
      simp only [Option.map_some, Option.some.injEq] at hp
      rw [← hp, ← h1, Array.toList_map]
      clear hp h1 hq ho
      induction parts.toList with
      | nil => rfl
      | cons p l ih => simp only [List.map_cons, List.zip_cons_cons, List.cons.injEq, true_and]; exact ih
  refine Does.pure (wantF_of ha hw) _ ?_ ⟨rfl, rfl⟩
  unfold execOp
  simp only [ho, Sem.run_bind, run_build w t _ _ (by rw [key]; exact hb), Result.andThen_ok]
  rfl
end
end Go.Proofs.YthefddclefimoaaDoor
