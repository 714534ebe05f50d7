/- Slices of the call's own: rows that may be written, and appended to. No program stands here. Arrays and structs: whether two are the same. No program stands here. Arguments with depth, opened: slices of structs, of arrays. No program stands here. Appends of drawn regions: a literal of nothing, what is appended to it. A region whose order is drawn, of which one operation ahead of the last ones writes to what the region itself has made. No program stands here. Views of a slice of one's own: parts of it, appends and clears in place. No program stands here. What slices.Insert needs: parts of slices of one's own that overlap, the room of a slice, an append of zeros. No program stands here. What slices.Clone leaves: nothing, or a slice of one's own; and that changes behind a base are none ahead of it. No program stands here. Operations on texts. No program stands here. Lists that are right: so many at most, each of them good, in order. No program stands here. The order of texts. No program stands here. Sorted texts, each once; what slices.Sort and slices.Compact leave of a slice of one's own; a field that is stored. No program stands here. A region whose order is drawn, of which one operation ahead of the last ones writes in place to what another one of it has made. No program stands here. A region whose order is drawn, of which one operation writes in place to what stood there ahead of it. No program stands here. What the program says of its types: sizes, fields, zero values. -/
import Derived.Laws.AppendOwnNone
import Derived.ChangeKeysEq
import Derived.Laws.StructEq
import Derived.ChangeSlices
import Derived.ChangeSame
import Derived.Deep.Strs
import Derived.Lib.SmallJoins
import Derived.Lib.Overlaps
import Derived.Sort.OwnSorted
import Derived.Lib.SlicesCompact
import Derived.Lib.RowBridge
import Derived.Lib.AppendZeros
import Derived.Test.YtohnicmacmkapaaDoorYB
namespace Go.Proofs.YtohnicmacmkapaaDoor
open Go.RowKit
set_option linter.unusedVariables false
set_option linter.unusedSimpArgs false

/-- A block is written to, or another one comes in its place. -/
structure GrowB (B B' : Nat) (w w' : World) : Prop where
  os : w'.os = w.os
  tape : w'.tape = w.tape
  output : w'.output = w.output
  size : w.heap.size ≤ w'.heap.size
  block : ∀ k, k < w.heap.size → k ≠ B → w'.heap[k]? = w.heap[k]?
  new : B' = B ∨ w.heap.size ≤ B'
theorem GrowB.of_only {B : Nat} {w w' : World} (h : Only B w w') : GrowB B B w w' := ⟨h.os, h.tape, h.output, by rw [h.size]; exact Nat.le_refl _, fun k _ hk => h.block k hk, .inl rfl⟩
theorem GrowB.of_below {B : Nat} {w w' : World} (h : Below w.heap.size w w') : GrowB B w.heap.size w w' := ⟨h.os, h.tape, h.output, h.size, fun k hk _ => h.block k hk, .inr (Nat.le_refl _)⟩
theorem GrowB.below {n0 B B' : Nat} {w0 w w' : World} (h : GrowB B B' w w') (hb : Below n0 w0 w) (hB : n0 ≤ B) (hn : n0 ≤ w.heap.size) : Below n0 w0 w' :=
  ⟨by rw [h.os]; exact hb.os, by rw [h.tape]; exact hb.tape, by rw [h.output]; exact hb.output, Nat.le_trans hb.size h.size, fun k hk => by rw [h.block k (by omega) (by omega)]; exact hb.block k hk⟩
theorem GrowB.le {n0 B B' : Nat} {w w' : World} (h : GrowB B B' w w') (hB : n0 ≤ B) (hn : n0 ≤ w.heap.size) : n0 ≤ B' := by
  cases h.new with
  | inl e => omega
  | inr e => omega
theorem Blk.grow {w w' : World} {B B' C : Nat} {cs : List Value} (h : Blk w C cs) (hg : GrowB B B' w w') (hn : C ≠ B) : Blk w' C cs := by
  have hlt := h.lt
  obtain ⟨t, h'⟩ := h
  exact ⟨t, by rw [hg.block C hlt hn]; exact h'⟩
theorem Blk.grow_ne {w w' : World} {B B' C : Nat} {cs : List Value} (h : Blk w C cs) (hg : GrowB B B' w w') (hn : C ≠ B) : C ≠ B' := by
  have hlt := h.lt
  cases hg.new with
  | inl e => rw [e]; exact hn
  | inr e => omega
theorem rdf_lt {s : Nat} {L : List Nat} {w : World} {a : Option Addr} {n cap : Nat} {rs : List (List Value)} (h : RdF s L w (.slice a n cap) rs) {X o : Nat} (ha : a = some ⟨X, o, none⟩) (hn : rs ≠ []) : X < w.heap.size := by
  obtain ⟨h0, hr, a', cap', h1, h2, h3, h4, h5⟩ := h
  obtain ⟨X', o', e, hX, hc⟩ := h5 hn
  simp only [Value.slice.injEq] at h1
  rw [← h1.1, ha] at e
  simp at e
  have hlen : 0 < rs.flatten.length := by
    rw [flat_len hr]
    exact Nat.mul_pos (List.length_pos_iff.2 hn) h0
  have := range_lt hc hlen
  omega
theorem RdF.grow {s : Nat} {L : List Nat} {B B' : Nat} {w w' : World} {v : Value} {rs : List (List Value)} (h : RdF s (B :: L) w v rs) (hg : GrowB B B' w w') : RdF s (B' :: L) w' v rs := by
  have hh := h
  obtain ⟨h0, hr, a, cap, h1, h2, h3, h4, h5⟩ := h
  refine ⟨h0, hr, a, cap, h1, h2, h3, h4, fun hn => ?_⟩
  obtain ⟨X, o, e, hX, hc⟩ := h5 hn
  subst h1
  have hlt := rdf_lt hh e hn
  simp only [List.mem_cons, not_or] at hX
  refine ⟨X, o, e, ?_, fun j v hj => ?_⟩
  · simp only [List.mem_cons, not_or]
    refine ⟨?_, hX.2⟩
    cases hg.new with
    | inl e => rw [e]; exact hX.1
    | inr e => omega
  · rw [← hc j v hj]
    exact World.cell?_of_block (hg.block X hlt hX.1)
/-- A slice of the call's own: its rows lie at the beginning of its block. -/
def OwS (s : Nat) (w : World) (v : Value) (rs : List (List Value)) (B : Nat) : Prop :=
  0 < s ∧ (∀ r ∈ rs, r.length = s) ∧ ∃ cap sp, v = .slice (some ⟨B, 0, none⟩) rs.length cap ∧ rs.length ≤ cap ∧ cap ≤ maxLen ∧ sp.length = (cap - rs.length) * s ∧ Blk w B (rs.flatten ++ sp)
theorem OwS.rd {s : Nat} {w : World} {v : Value} {rs : List (List Value)} {B : Nat} {L : List Nat} (h : OwS s w v rs B) (hB : B ∉ L) : RdF s L w v rs := by
  obtain ⟨h0, hr, cap, sp, rfl, h2, h3, h4, h5⟩ := h
  refine ⟨h0, hr, _, cap, rfl, h2, h3, by simp, fun _ => ⟨B, 0, rfl, hB, fun j v hj => h5.range j v ?_⟩⟩
  rw [List.getElem?_append_left (List.getElem?_eq_some_iff.1 hj).1]
  exact hj
theorem OwS.one {s : Nat} {w : World} {v : Value} {rs : List (List Value)} {B : Nat} (h : OwS s w v rs B) : v.oneCell' = true := by
  obtain ⟨_, _, cap, sp, rfl, _⟩ := h
  rfl
theorem OwS.lt {s : Nat} {w : World} {v : Value} {rs : List (List Value)} {B : Nat} (h : OwS s w v rs B) : B < w.heap.size := by
  obtain ⟨h0, hr, cap, sp, rfl, h2, h3, h4, h5⟩ := h
  exact h5.lt
theorem OwS.below {s : Nat} {w w' : World} {v : Value} {rs : List (List Value)} {B : Nat} (h : OwS s w v rs B) (hb : Below w.heap.size w w') : OwS s w' v rs B := by
  obtain ⟨h0, hr, cap, sp, h1, h2, h3, h4, h5⟩ := h
  exact ⟨h0, hr, cap, sp, h1, h2, h3, h4, h5.below hb⟩
theorem OwS.other {s : Nat} {w w' : World} {v : Value} {rs : List (List Value)} {B C : Nat} (h : OwS s w v rs B) (ho : Only C w w') (hn : B ≠ C) : OwS s w' v rs B := by
  obtain ⟨h0, hr, cap, sp, h1, h2, h3, h4, h5⟩ := h
  exact ⟨h0, hr, cap, sp, h1, h2, h3, h4, h5.other ho hn⟩
theorem flat_set {s : Nat} {rs : List (List Value)} {i : Nat} {r' : List Value} (h : ∀ r ∈ rs, r.length = s) (hr : r'.length = s) (hi : i < rs.length) (sp : List Value) :
    (rs.flatten ++ sp).take (i * s) ++ (r' ++ (rs.flatten ++ sp).drop (i * s + s)) = (rs.set i r').flatten ++ sp := by
  have hl : (rs.take i).flatten.length = i * s := by rw [flat_len (fun r hr => h r (List.mem_of_mem_take hr)), List.length_take, Nat.min_eq_left (by omega)]
  have e1 : rs.flatten = (rs.take i).flatten ++ ((rs.drop i).flatten) := by rw [← List.flatten_append, List.take_append_drop]
  have e2 : (rs.drop i).flatten = rs[i] ++ (rs.drop (i + 1)).flatten := by rw [List.drop_eq_getElem_cons hi, List.flatten_cons]
  have hri := h rs[i] (List.getElem_mem hi)
  have e3 : rs.set i r' = rs.take i ++ r' :: rs.drop (i + 1) := by rw [List.set_eq_take_append_cons_drop, if_pos hi]
  rw [e3, List.flatten_append, List.flatten_cons, e1, e2]
  simp only [List.append_assoc]
  rw [← hl, List.take_left, List.drop_append, List.drop_eq_nil_of_le (by omega), List.nil_append, Nat.add_sub_cancel_left, ← hri, List.drop_left]
section
variable {P : Program} {ops : Array Oper} {o : Oper} {N : Nat} {f : Fl} {w : World}
/-- The place of an element of a slice of the call's own. -/
theorem dx_idxO {t s B : Nat} {x y : Operand} {v : Value} {rs : List (List Value)} {K : IntKind} {i : Int} (k : Nat) {o1 : Nat} (ho : o.op = .indexAddr t x y) (ht : sliceB P t s = true) (hx : ev f x = some v) (hy : ev f y = some (.int K i)) (hr : OwS s w v rs B) (hk : i = (k : Int)) (hi : k < rs.length) (h1 : k * s = o1) (hw : wantF ops o f = some true := by rfl) :
    DV P ops o N f w (.pointer (some ⟨B, o1, none⟩)) := fun a ha => by
  obtain ⟨h0, hl, cap, sp, rfl, h2, h3, h4, h5⟩ := hr
  obtain ⟨e, hu, hs⟩ := of_sliceB ht
  have hx := ha.ev hx
  have hy := ha.ev hy
  subst hk
  have hrun := run_idxS (w := w) (n := rs.length) (c := cap) hu hs B 0 K (k : Int) (by omega) (by omega)
  refine Does.pure (wantF_of ha hw) _ (by unfold execOp; simp only [ho, hx, hy, Sem.run_bind, hrun, Result.andThen_ok]; rfl) ⟨?_, rfl⟩
  rw [← h1]; simp
theorem dx_lenO {t s s' B : Nat} {x : Operand} {v : Value} {rs : List (List Value)} (ho : o.op = .call { callee := .builtin .len, args := #[x], argTypes := #[t] }) (ht : sliceB P t s' = true) (hx : ev f x = some v) (hr : OwS s w v rs B) (hw : wantF ops o f = some true := by rfl) : DV P ops o N f w (.int .i64 (rs.length : Int)) := by
  obtain ⟨_, _, cap, sp, rfl, _⟩ := hr
  obtain ⟨e, hu, _⟩ := of_sliceB ht
  exact dx_len ho hu hx hw
/-- An element of a slice of the call's own, loaded whole. -/
theorem dx_loadO {t s B k o0 : Nat} {x : Operand} {v : Value} {rs : List (List Value)} {r : List Value} (ho : o.op = .load t x) (ht : aggB P t s = true) (hx : ev f x = some (.pointer (some ⟨B, o0, none⟩))) (hr : OwS s w v rs B) (hk : k * s = o0) (hi : rs[k]? = some r) (hw : wantF ops o f = some true := by rfl) : DV P ops o N f w (.agg r.toArray) := by
  obtain ⟨h0, hl, cap, sp, rfl, h2, h3, h4, h5⟩ := hr
  have hlt := (List.getElem?_eq_some_iff.1 hi).1
  have hc := h5.part (k * s) s
  have hf := flat_row hl hi
  have e : ((rs.flatten ++ sp).drop (k * s)).take s = r := by
    have hlen : (k + 1) * s ≤ rs.flatten.length := by rw [flat_len hl]; exact Nat.mul_le_mul_right _ hlt
    rw [Nat.succ_mul] at hlen
    rw [List.drop_append_of_le_length (by omega), List.take_append_of_le_length (by rw [List.length_drop]; omega)]
    exact hf
  rw [e, hk] at hc
  exact dx_loadN ho ht hx hc (hl r (List.mem_of_getElem? hi)) hw
/-- An element of a slice of the call's own, stored whole. -/
theorem dx_storeO {t s B k o0 : Nat} {x y : Operand} {V v : Value} {rs : List (List Value)} {r : List Value} (ho : o.op = .store t x y) (ht : sizeB P t s = true) (hx : ev f x = some (.pointer (some ⟨B, o0, none⟩))) (hy : ev f y = some V) (hv : V.cells.toList = r) (h1 : ∀ v ∈ r, v.oneCell' = true)
    (hr : OwS s w v rs B) (hk : k * s = o0) (hi : k < rs.length) (hl : r.length = s) (hw : wantF ops o f = some true := by rfl) : DR P ops o N f w fun _ W => OwS s W v (rs.set k r) B ∧ Only B w W := by
  obtain ⟨h0, hrl, cap, sp, rfl, h2, h3, h4, h5⟩ := hr
  have hlen : (k + 1) * s ≤ rs.flatten.length := by rw [flat_len hrl]; exact Nat.mul_le_mul_right _ hi
  rw [Nat.succ_mul] at hlen
  refine (dx_store (cs' := (rs.set k r).flatten ++ sp) ho ht hx hy hv h1 h5 hl (by rw [List.length_append]; omega) (by rw [← hk]; exact flat_set hrl hl hi sp) hw).mono fun _ W h => ⟨⟨h0, fun r' hr' => ?_, cap, sp, by rw [List.length_set], by rw [List.length_set]; exact h2, h3, by rw [List.length_set]; exact h4, h.1⟩, h.2⟩
  rcases List.mem_or_eq_of_mem_set hr' with h | h
  · exact hrl r' h
  · rw [h]; exact hl
/-- A slice that is written out. -/
theorem run_buildSlice {t e : TypeId} (hu : P.underlying t = some (.slice e)) {i : TypeInfo} (hi : P.info? e = some i) {Z : Value} (hz : i.zero = some Z) (len : Nat) (parts : Array (Nat × Value)) (hlen : len * i.size ≤ 16777216) {cs : Array Value}
    (hf : Instr.fill (fun k => some (k * i.size, i.size)) (if len * i.size = 0 then #[] else (Array.range (len * i.size)).map (Z.cells[· % Z.cells.size]!)) parts.toList = some cs) :
    (Instr.buildSlice t len parts).run P w = .ok (.slice (some ⟨w.heap.size, 0, none⟩) len len) (w.alloc (.cells cs e)) := by
  have hn : ¬ len * i.size > 2 ^ 24 := by omega
  unfold Instr.buildSlice
  simp only [Sem.run_bind, run_underlying hu, Result.andThen_ok, sizeOf, typeInfo, run_program, hi, Sem.run_pure, if_neg hn]
  by_cases h0 : len * i.size = 0
  · rw [if_pos h0] at hf
    have e0 : Array.map (fun x => (#[] : Array Value)[x % (#[] : Array Value).size]!) (Array.range (len * i.size)) = #[] := by rw [h0]; simp
    simp only [if_pos h0, Sem.run_pure, Result.andThen_ok, e0, hf, newRow, Sem.run_bind, run_newObj_alloc]
  · rw [if_neg h0] at hf
    simp only [if_neg h0, zeroValue, typeInfo, Sem.run_bind, run_program, hi, hz, Sem.run_pure, Result.andThen_ok, hf, newRow, run_newObj_alloc]
theorem newB_row (w : World) (t : TypeId) (cs : List Value) : Blk (w.alloc (.cells cs.toArray t)) w.heap.size cs ∧ Below w.heap.size w (w.alloc (.cells cs.toArray t)) ∧ w.heap.size < (w.alloc (.cells cs.toArray t)).heap.size :=
  ⟨⟨t, by rw [heap_alloc_new]⟩, (Below.refl _ _).alloc (Nat.le_refl _) _, (Array.getElem?_eq_some_iff.1 (heap_alloc_new w _)).1⟩
/-- What a slice is that is newly made. -/
def NewO (s : Nat) (w : World) (rs : List (List Value)) (u : Value) (W : World) : Prop := OwS s W u rs w.heap.size ∧ Below w.heap.size w W ∧ w.heap.size < W.heap.size
theorem dx_lit {t len s : Nat} {parts : Array (Nat × Operand)} {e : TypeId} {i : TypeInfo} {Z : Value} {ps : List (Nat × Value)} {rs : List (List Value)} (ho : o.op = .buildSlice t len parts) (hu : P.underlying t = some (.slice e)) (hi : P.info? e = some i) (hz : i.zero = some Z) (hs : i.size = s) (h0 : 0 < s)
    (hp : (evl f (parts.toList.map (·.2))).map (fun vs => (parts.toList.map (·.1)).zip vs) = some ps) (hlen : len * s ≤ 16777216)
    (hf : Instr.fill (fun k => some (k * s, s)) (if len * s = 0 then #[] else (Array.range (len * s)).map (Z.cells[· % Z.cells.size]!)) ps = some rs.flatten.toArray) (hrs : ∀ r ∈ rs, r.length = s) (hl : rs.length = len) (hm : len ≤ maxLen) (hw : wantF ops o f = some true := by rfl) : DR P ops o N f w (NewO s w rs) := fun a ha => by
  have key : (parts.map fun (i, x) => (i, a.eval x)).toList = ps := by
    cases hq : evl f (parts.toList.map (·.2)) with
    | none => rw [hq] at hp; cases hp
    | some vs =>
      rw [hq] at hp
      have h1 := ha.evl hq
      simp only [Option.map_some, Option.some.injEq] at hp
      rw [← hp, ← h1, Array.toList_map]
      clear hp h1 hq ho
      induction parts.toList with
      | nil => rfl
      | cons p l ih => simp only [List.map_cons, List.zip_cons_cons, List.cons.injEq, true_and]; exact ih
  subst hs
  have hrun := run_buildSlice (w := w) hu hi hz len (parts.map fun (i, x) => (i, a.eval x)) hlen (cs := rs.flatten.toArray) (by rw [key]; exact hf)
  exact Does.of_wp (wantF_of ha hw) fun K hK => by
    unfold Oper.wp execOp
    simp only [ho, Sem.run_bind, hrun, Sem.run_pure, Result.andThen_ok]
    obtain ⟨n1, n2, n3⟩ := newB_row w e rs.flatten
    exact hK _ _ ⟨⟨h0, hrs, len, [], by rw [hl], by omega, hm, by simp [hl], by simpa using n1⟩, n2, n3⟩
theorem run_ap_room {t ty e t' : TypeId} {i : TypeInfo} (ht : P.underlying t = some (.slice e)) (hi : P.info? e = some i)
    (g sLen sCap : Nat) (cur : Array Value) (hg : w.heap[g]? = some (.cells cur t' (0, 0)))
    (a : Addr) (m c : Nat) (news : List Value) (hl : news.length = m * i.size) (hnews : ∀ j u, news[j]? = some u → w.cell? (a.add j) = some u) (h1 : ∀ u ∈ news, u.oneCell' = true)
    (hroom : sLen + m ≤ sCap) (hfit : sLen * i.size + news.length ≤ cur.size) :
    (Builtin.append_ #[t, t] ty #[.slice (some ⟨g, 0, none⟩) sLen sCap, .slice (some a) m c]).run P w =
      .ok (.slice (some ⟨g, 0, none⟩) (sLen + m) sCap) (w.setRow g (cur.toList.take (sLen * i.size) ++ news ++ cur.toList.drop (sLen * i.size + news.length)).toArray) := by
  have hf := run_firstCells_some (P := P) w i.size m a m c news hl hnews
  have hst := run_storeCells_at P g (sLen * i.size) t' news 0 cur w hg (by simpa using hfit) h1
  simp only [Nat.add_zero] at hst
  simp [Builtin.append_, run_underlying ht, sizeOf, typeInfo, hi, Builtin.lenOf, hroom, hf, addr_at, hst]
/-- An append to a slice of the call's own. -/
theorem run_apO {t ty e : TypeId} (hu : P.underlying t = some (.slice e)) {i : TypeInfo} (hi : P.info? e = some i) {Z : Value} (hz : i.zero = some Z) (hzs : Z.cells.size = i.size) {B : Nat} {v v2 : Value} {rs news : List (List Value)} {L : List Nat}
    (h : OwS i.size w v rs B) (h2 : RdF i.size L w v2 news) (h1 : ∀ r ∈ news, ∀ u ∈ r, u.oneCell' = true) (hm : rs.length + news.length ≤ maxLen) (hby : (rs.length + news.length) * i.bytes ≤ 140737488355328) :
    ∃ v' w' B', (Builtin.append_ #[t, t] ty #[v, v2]).run P w = .ok v' w' ∧ OwS i.size w' v' (rs ++ news) B' ∧ GrowB B B' w w' := by
  obtain ⟨h0, hl, cap, sp, rfl, hc1, hc2, hc3, hb⟩ := h
  obtain ⟨_, hl2, a2, cap2, rfl, hd1, hd2, hd3, hd4⟩ := h2
  have hlr : ∀ r ∈ rs ++ news, r.length = i.size := fun r hr => by
    rcases List.mem_append.1 hr with h | h
    · exact hl r h
    · exact hl2 r h
  by_cases hn : news = []
  · subst hn
    refine ⟨.slice (some ⟨B, 0, none⟩) rs.length cap, w, B, ?_, ⟨h0, hlr, cap, sp, by simp, by simpa using hc1, hc2, by simpa using hc3, by simpa using hb⟩, ⟨rfl, rfl, rfl, Nat.le_refl _, fun _ _ _ => rfl, .inl rfl⟩⟩
    obtain ⟨tt, hb'⟩ := hb
    cases a2 with
    | none =>
      obtain rfl := hd3 rfl
      simp [Builtin.append_, run_underlying hu, sizeOf, typeInfo, hi, Builtin.lenOf, hc1, Builtin.firstCells, storeCells]
    | some a2 =>
      simp [Builtin.append_, run_underlying hu, sizeOf, typeInfo, hi, Builtin.lenOf, hc1, Builtin.firstCells, loadCells, loadCellsFrom, storeCells]
  · obtain ⟨X, o0, rfl, hX, hc⟩ := hd4 hn
    obtain ⟨tt, hb'⟩ := hb
    have hnews : ∀ j u, news.flatten[j]? = some u → w.cell? ((⟨X, o0, none⟩ : Addr).add j) = some u := fun j u hj => by rw [addr_at]; exact hc j u hj
    have hflat : news.flatten.length = news.length * i.size := flat_len hl2
    have h1' : ∀ u ∈ news.flatten, u.oneCell' = true := fun u hu => by
      obtain ⟨r, hr, hur⟩ := List.mem_flatten.1 hu
      exact h1 r hr u hur
    have hfl : rs.flatten.length = rs.length * i.size := flat_len hl
    by_cases hroom : rs.length + news.length ≤ cap
    · have hle : news.length * i.size ≤ sp.length := by
        rw [hc3]
        exact Nat.mul_le_mul_right _ (by omega)
      have hr := run_ap_room (P := P) (w := w) (t := t) (ty := ty) hu hi B rs.length cap _ hb' ⟨X, o0, none⟩ news.length cap2 news.flatten hflat hnews h1' hroom (by rw [List.size_toArray, List.length_append, hflat, hfl]; omega)
      refine ⟨_, _, B, hr, ⟨h0, hlr, cap, sp.drop news.flatten.length, by rw [List.length_append], by rw [List.length_append]; exact hroom, hc2, ?_, ⟨tt, ?_⟩⟩, GrowB.of_only (only_setRow w B _)⟩
      · rw [List.length_drop, List.length_append, hc3, hflat, ← Nat.sub_mul]
        congr 1
        omega
      · rw [setRow_heap w B _ _ tt _ hb']
        congr 3
        simp only [List.flatten_append, List.append_assoc]
        rw [← hfl, List.take_left, List.drop_append, List.drop_eq_nil_of_le (by omega), List.nil_append, Nat.add_sub_cancel_left]
    · have holds : ∀ j u, rs.flatten[j]? = some u → w.cell? ((⟨B, 0, none⟩ : Addr).add j) = some u := fun j u hj => by
        have := (Blk.range ⟨tt, hb'⟩) j u (by rw [List.getElem?_append_left (List.getElem?_eq_some_iff.1 hj).1]; exact hj)
        rw [addr_at]; exact this
      have hsmall : rs.length + news.length ≤ 9223372036854775807 := by unfold maxLen at hm; omega
      have hr := run_append_grow (P := P) w t ty e i Z hu hi hz ⟨B, 0, none⟩ rs.length cap rs.flatten hfl holds ⟨X, o0, none⟩ news.length cap2 news.flatten hflat hnews (by omega) (by omega) (growslice_fits (by omega) hby)
      refine ⟨_, _, w.heap.size, hr, ⟨h0, hlr, grownCap w (rs.length + news.length) cap e, (Builtin.zeroCells Z.cells (grownCap w (rs.length + news.length) cap e - (rs.length + news.length))).toList, by rw [List.length_append], by rw [List.length_append]; exact grownCap_ge _ _ _ _, grownCap_le_maxLen _ _ _ _ hm, ?_, ⟨e, ?_⟩⟩, ?_⟩
      · rw [Array.length_toList, size_zeroCells, hzs, List.length_append]
      · rw [show w.heap.size = w.drew.heap.size from (World.size_drew w).symm, heap_alloc_new]
        congr 2
        apply Array.ext'
        simp
      · exact GrowB.of_below (below_alloc (below_draws (Below.refl _ _) 1) _)
/-- What is asked of an element's type ahead of an append. -/
def apB (P : Program) (t s bytes : Nat) : Bool := match P.underlying t with
  | some (.slice e) => match P.info? e with
    | some i => i.size == s && i.bytes == bytes && (match i.zero with | some z => z.cells.size == s | none => false)
    | none => false
  | _ => false
theorem of_apB {t s bytes : Nat} (h : apB P t s bytes = true) : ∃ e i Z, P.underlying t = some (.slice e) ∧ P.info? e = some i ∧ i.zero = some Z ∧ i.size = s ∧ i.bytes = bytes ∧ Z.cells.size = i.size := by
  unfold apB at h
  split at h
  · rename_i e hu
    split at h
    · rename_i i hi
      simp only [Bool.and_eq_true, beq_iff_eq] at h
      obtain ⟨⟨h1, h2⟩, h3⟩ := h
      split at h3
      · rename_i z hz
        exact ⟨e, i, z, hu, hi, hz, h1, h2, by rw [h1]; simpa using h3⟩
      · cases h3
    · cases h
  · cases h
/-- What an append leaves. -/
def GrO (s B : Nat) (w : World) (rs : List (List Value)) (u : Value) (W : World) : Prop := ∃ B', OwS s W u rs B' ∧ GrowB B B' w W
theorem dx_apO {t s bytes B : Nat} {x y : Operand} {v v2 : Value} {rs news : List (List Value)} {L : List Nat} (ho : o.op = .call { callee := .builtin .append, args := #[x, y], argTypes := #[t, t] }) (ht : apB P t s bytes = true) (hx : ev f x = some v) (hy : ev f y = some v2) (hB : B ∈ L)
    (h : OwS s w v rs B) (h2 : RdF s L w v2 news) (h1 : ∀ r ∈ news, ∀ u ∈ r, u.oneCell' = true) (hm : rs.length + news.length ≤ maxLen) (hby : (rs.length + news.length) * bytes ≤ 140737488355328) (hw : wantF ops o f = some true := by rfl) : DR P ops o N f w (GrO s B w (rs ++ news)) := fun a ha => by
  obtain ⟨e, i, Z, hu, hi, hz, rfl, rfl, hzs⟩ := of_apB ht
  have hx := ha.ev hx
  have hy := ha.ev hy
  obtain ⟨v', w', B', hr, h3, h4⟩ := run_apO (w := w) (t := t) (ty := o.type) hu hi hz hzs h h2 h1 hm hby
  exact Does.of_wp (wantF_of ha hw) fun K hK => by
    unfold Oper.wp execOp
    simp only [ho, resolve, invoke, builtin, Sem.run_bind, Sem.run_pure, Result.andThen_ok, List.map_toArray, List.map_cons, List.map_nil, hx, hy, hr]
    exact hK _ _ ⟨B', h3, h4⟩
/-- An append of something to a slice that is full: what comes is new. -/
theorem dx_apF {t s bytes : Nat} {x y : Operand} {v2 : Value} {a1 : Option Addr} {rs news : List (List Value)} {L : List Nat} (ho : o.op = .call { callee := .builtin .append, args := #[x, y], argTypes := #[t, t] }) (ht : apB P t s bytes = true) (hx : ev f x = some (.slice a1 rs.length rs.length)) (hy : ev f y = some v2)
    (h : RdF s L w (.slice a1 rs.length rs.length) rs) (h2 : RdF s L w v2 news) (hn : news ≠ []) (hm : rs.length + news.length ≤ maxLen) (hby : (rs.length + news.length) * bytes ≤ 140737488355328) (hw : wantF ops o f = some true := by rfl) : DR P ops o N f w (NewO s w (rs ++ news)) := fun a ha => by
  obtain ⟨e, i, Z, hu, hi, hz, rfl, rfl, hzs⟩ := of_apB ht
  have hx := ha.ev hx
  have hy := ha.ev hy
  obtain ⟨h0, hl, ad, cap, he, hc1, hc2, hc3, hc4⟩ := h
  obtain ⟨_, hl2, a2, cap2, rfl, hd1, hd2, hd3, hd4⟩ := h2
  simp only [Value.slice.injEq, true_and] at he
  obtain ⟨rfl, rfl⟩ := he
  have hlr : ∀ r ∈ rs ++ news, r.length = i.size := fun r hr => by
    rcases List.mem_append.1 hr with h | h
    · exact hl r h
    · exact hl2 r h
  obtain ⟨X, o0, rfl, hX, hc⟩ := hd4 hn
  have hpos : 0 < news.length := List.length_pos_iff.2 hn
  have hnews : ∀ j u, news.flatten[j]? = some u → w.cell? ((⟨X, o0, none⟩ : Addr).add j) = some u := fun j u hj => by rw [addr_at]; exact hc j u hj
  have hflat : news.flatten.length = news.length * i.size := flat_len hl2
  have hfl : rs.flatten.length = rs.length * i.size := flat_len hl
  have hsmall : rs.length + news.length ≤ 9223372036854775807 := by unfold maxLen at hm; omega
  have fin : ∀ cap', rs.length + news.length ≤ cap' → cap' ≤ maxLen → NewO i.size w (rs ++ news) (.slice (some ⟨w.heap.size, 0, none⟩) (rs.length + news.length) cap') (w.drew.alloc (.cells ((rs ++ news).flatten ++ (Builtin.zeroCells Z.cells (cap' - (rs.length + news.length))).toList).toArray e)) := fun cap' hcap1 hcap2 => by
    refine ⟨⟨h0, hlr, cap', (Builtin.zeroCells Z.cells (cap' - (rs.length + news.length))).toList, by rw [List.length_append], by rw [List.length_append]; exact hcap1, hcap2, ?_, ⟨e, ?_⟩⟩, below_alloc (below_draws (Below.refl _ _) 1) _, ?_⟩
    · rw [Array.length_toList, size_zeroCells, hzs, List.length_append]
    · rw [show w.heap.size = w.drew.heap.size from (World.size_drew w).symm, heap_alloc_new]
    · rw [show w.heap.size = w.drew.heap.size from (World.size_drew w).symm]; exact (Array.getElem?_eq_some_iff.1 (heap_alloc_new _ _)).1
  refine Does.of_wp (wantF_of ha hw) fun K hK => ?_
  have main : ∃ cap', rs.length + news.length ≤ cap' ∧ cap' ≤ maxLen ∧ (Builtin.append_ #[t, t] o.type #[.slice a1 rs.length rs.length, .slice (some ⟨X, o0, none⟩) news.length cap2]).run P w = .ok (.slice (some ⟨w.heap.size, 0, none⟩) (rs.length + news.length) cap') (w.drew.alloc (.cells ((rs ++ news).flatten ++ (Builtin.zeroCells Z.cells (cap' - (rs.length + news.length))).toList).toArray e)) := by
    cases a1 with
    | none =>
      have hz0 := hc3 rfl
      have hrs : rs = [] := List.length_eq_zero_iff.1 hz0
      subst hrs
      have hr := run_append_nil (P := P) w t o.type e i Z hu hi hz ⟨X, o0, none⟩ news.length cap2 news.flatten hflat hnews hpos (by omega) (by simp only [List.length_nil, Nat.zero_add] at hby; omega)
      refine ⟨grownCap w news.length 0 e, by simpa using grownCap_ge _ _ _ _, grownCap_le_maxLen _ _ _ _ (by simpa using hm), ?_⟩
      simp only [List.length_nil, Nat.zero_add]
      rw [hr]
      congr 3
      congr 1
      apply Array.ext'
      simp
    | some b =>
      have holds : ∀ j u, rs.flatten[j]? = some u → w.cell? (b.add j) = some u := fun j u hj => by
        have hne : rs ≠ [] := by intro e; subst e; simp at hj
        obtain ⟨X', o', e, _, hc'⟩ := hc4 hne
        cases e
        rw [addr_at]; exact hc' j u hj
      have hr := run_append_grow (P := P) w t o.type e i Z hu hi hz b rs.length rs.length rs.flatten hfl holds ⟨X, o0, none⟩ news.length cap2 news.flatten hflat hnews (by omega) (by omega) (growslice_fits (by omega) hby)
      refine ⟨grownCap w (rs.length + news.length) rs.length e, grownCap_ge _ _ _ _, grownCap_le_maxLen _ _ _ _ hm, ?_⟩
      rw [hr]
      congr 3
      apply Array.ext'
      simp
  obtain ⟨cap', k1, k2, k3⟩ := main
  unfold Oper.wp execOp
  simp only [ho, resolve, invoke, builtin, Sem.run_bind, Sem.run_pure, Result.andThen_ok, List.map_toArray, List.map_cons, List.map_nil, hx, hy, k3]
  exact hK _ _ (fin cap' k1 k2)
/-- A slice of noughts. -/
theorem dx_make {t s bytes : Nat} {x y : Operand} {K : IntKind} {n : Int} {r : List Value} (ho : o.op = .makeSlice t x y) (ht : apB P t s bytes = true) (hz : ∀ e, P.underlying t = some (.slice e) → (P.info? e).bind (fun i => i.zero.map (·.cells.toList)) = some r) (hx : ev f x = some (.int K n)) (hy : ev f y = some (.int K n)) (h0 : 0 ≤ n) (hs : 0 < s) (hb : bytes * n ≤ 140737488355328) (hm : n ≤ maxLen) (hw : wantF ops o f = some true := by rfl) :
    DR P ops o N f w (NewO s w (List.replicate n.toNat r)) := fun a ha => by
  obtain ⟨e, i, Z, hu, hi, hZ, rfl, rfl, hzs⟩ := of_apB ht
  have hx := ha.ev hx
  have hy := ha.ev hy
  have hr := hz e hu
  rw [hi] at hr
  simp only [Option.bind_some, hZ, Option.map_some, Option.some.injEq] at hr
  have hrun := run_make (P := P) w t e i Z hu hi hZ K K n n h0 (Int.le_refl _) (by omega) (by unfold maxLen at hm; omega)
  have hrl : r.length = i.size := by rw [← hr, Array.length_toList, hzs]
  have hcs : madeCells Z.cells (n.toNat * i.size) = (List.replicate n.toNat r).flatten.toArray := by
    apply Array.ext
    · rw [size_madeCells, List.size_toArray, flat_len (s := i.size) (fun r' hr' => by rw [(List.mem_replicate.1 hr').2]; exact hrl), List.length_replicate]
    · intro j h1 h2
      rw [size_madeCells] at h1
      have hjs : j % i.size < i.size := Nat.mod_lt _ hs
      have hjd : j / i.size < n.toNat := (Nat.div_lt_iff_lt_mul hs).2 h1
      have hrow := flat_row (rs := List.replicate n.toNat r) (s := i.size) (i := j / i.size) (r := r) (fun r' hr' => by rw [(List.mem_replicate.1 hr').2]; exact hrl) (by rw [List.getElem?_replicate, if_pos hjd])
      have hg : (List.replicate n.toNat r).flatten[j]? = r[j % i.size]? := by
        conv => rhs; rw [← hrow]
        rw [List.getElem?_take, if_pos hjs, List.getElem?_drop]
        congr 1
        have := Nat.div_add_mod j i.size
        rw [Nat.mul_comm] at this
        exact this.symm
      have hzj : j % Z.cells.size < Z.cells.size := by rw [hzs]; exact hjs
      simp only [madeCells, Array.getElem_map, Array.getElem_range]
      rw [getElem!_pos Z.cells _ hzj]
      have h3 : (List.replicate n.toNat r).flatten.toArray[j]? = some ((List.replicate n.toNat r).flatten.toArray[j]) := Array.getElem?_eq_getElem h2
      have h4 : r[j % i.size]? = some (Z.cells[j % Z.cells.size]) := by
        have h5 : r[j % i.size]? = Z.cells.toList[j % i.size]? := by rw [hr]
        rw [h5, Array.getElem?_toList, ← Array.getElem?_eq_getElem hzj, hzs]
      rw [List.getElem?_toArray, hg, h4] at h3
      exact Option.some.inj h3
  exact Does.of_wp (wantF_of ha hw) fun KK hK => by
    unfold Oper.wp execOp
    simp only [ho, hx, hy, Sem.run_bind, hrun, Sem.run_pure, Result.andThen_ok]
    rw [hcs]
    obtain ⟨n1, n2, n3⟩ := newB_row w e (List.replicate n.toNat r).flatten
    exact hK _ _ ⟨⟨hs, fun r' hr' => by rw [(List.mem_replicate.1 hr').2]; exact hrl, n.toNat, [], by rw [List.length_replicate], by rw [List.length_replicate]; omega, by omega, by simp, by simpa using n1⟩, n2, n3⟩
end

/-- A block of the call's own, and its type. -/
def BlkT (w : World) (B t : Nat) (cs : List Value) : Prop := w.heap[B]? = some (.cells cs.toArray t (0, 0))
theorem BlkT.blk {w : World} {B t : Nat} {cs : List Value} (h : BlkT w B t cs) : Blk w B cs := ⟨t, h⟩
theorem BlkT.ne {w : World} {B C t t' : Nat} {cs cs' : List Value} (h : BlkT w B t cs) (h' : BlkT w C t' cs') (hn : (t == t') = false) : B ≠ C := fun e => by
  subst e
  unfold BlkT at h h'
  rw [h] at h'
  simp only [Option.some.injEq, Obj.cells.injEq] at h'
  rw [h'.2.1] at hn
  simp at hn
def NewP (base t : Nat) (cs : List Value) (u : Value) (w : World) : Prop := ∃ B, u = .pointer (some ⟨B, 0, none⟩) ∧ base ≤ B ∧ BlkT w B t cs
theorem NewP.below {base t : Nat} {cs : List Value} {u : Value} {w w' : World} (h : NewP base t cs u w) (hb : Below w.heap.size w w') : NewP base t cs u w' := by
  obtain ⟨B, h1, h2, h3⟩ := h
  exact ⟨B, h1, h2, by unfold BlkT; rw [hb.block B h3.blk.lt]; exact h3⟩
theorem LL.cons {L : List Nat} {w : World} {B : Nat} (h : LL L w) (hB : B < w.heap.size) : LL (B :: L) w := fun x hx => by
  cases hx with
  | head => exact hB
  | tail _ hx => exact h x hx
theorem LL.notin {L : List Nat} {w : World} (h : LL L w) {B : Nat} (hB : w.heap.size ≤ B) : B ∉ L := fun hx => by have := h B hx; omega
theorem OwS.notin {s : Nat} {w0 w : World} {v : Value} {rs : List (List Value)} {B : Nat} {L : List Nat} (h : OwS s w v rs B) (hL : LL L w0) (hB : w0.heap.size ≤ B) : RdF s L w v rs := h.rd (hL.notin hB)
section
variable {P : Program} {ops : Array Oper} {o : Oper} {N : Nat} {f : Fl} {w : World}
theorem dx_allocP {t : TypeId} {Z : Value} {cs : List Value} (ho : o.op = .alloc t) (hz : (P.info? t).bind (·.zero) = some Z) (hc : Z.cells.toList = cs) (hw : wantF ops o f = some true := by rfl) : DR P ops o N f w (fun u W => Below w.heap.size w W ∧ ∀ {w0 : World}, Below w0.heap.size w0 w → NewP w0.heap.size t cs u W) := fun a ha => by
  subst hc
  exact Does.of_wp (wantF_of ha hw) fun K hK => by
    cases hi : P.info? t with
    | none => rw [hi] at hz; cases hz
    | some i =>
      rw [hi] at hz
      have hz' : i.zero = some Z := hz
      have hti : (typeInfo t).run P w = .ok i w := by simp [typeInfo, hi]
      unfold Oper.wp execOp
      simp only [ho, Sem.run_bind, Instr.alloc, zeroValue, hti, hz', newVar, newRow, run_newObj_alloc, Sem.run_pure, Result.andThen_ok]
      obtain ⟨h1, h2, h3, h4⟩ := newB_alloc w t Z
      refine hK _ _ ⟨h3, fun hb => ⟨_, rfl, hb.size, ?_⟩⟩
      unfold BlkT
      rw [heap_alloc_new]
/-- A slice of its whole length, with no room behind it. -/
theorem dx_clip {t s : Nat} {L : List Nat} {x y z : Operand} {v : Value} {rs : List (List Value)} {n : Int} (ho : o.op = .slice t x none (some y) (some z)) (ht : sliceB P t s = true) (hx : ev f x = some v) (hr : RdF s L w v rs) (hy : ev f y = some (.int .i64 n)) (hz : ev f z = some (.int .i64 n)) (hn : n = (rs.length : Int)) (hw : wantF ops o f = some true := by rfl) :
    DR P ops o N f w fun u W => w = W ∧ ∃ a, u = .slice a rs.length rs.length ∧ RdF s L w u rs := fun a ha => by
  subst hn
  obtain ⟨h0, hl, ad, cap, rfl, h2, h3, h4, h5⟩ := hr
  obtain ⟨e, hu, hs⟩ := of_sliceB ht
  have hx := ha.ev hx
  have hy := ha.ev hy
  have hz := ha.ev hz
  have hadd : (ad.map (·.add (0 * s))) = ad := by
    cases ad with
    | none => rfl
    | some b =>
      by_cases hn : rs = []
      · subst hn
        simp [Addr.add]
      · obtain ⟨X, o, e, _⟩ := h5 hn
        cases e
        simp [addr_at]
  cases hi : P.info? e with
  | none => rw [hi] at hs; cases hs
  | some q =>
    have hq : q.size = s := by simpa [hi] using hs
    refine Does.pure (wantF_of ha hw) (.slice ad rs.length rs.length) ?_ ⟨rfl, ad, rfl, h0, hl, ad, rs.length, rfl, Nat.le_refl _, by omega, fun h => by have := h4 h; omega, h5⟩
    have hlen : ((rs.length : Int) ≤ (cap : Int)) := by omega
    unfold execOp
    simp only [ho, Option.map_none, Option.map_some, hx, hy, hz, Instr.sliceAt, Sem.run_bind, run_underlying hu, Result.andThen_ok, Instr.slice, Instr.sliceBounds, Instr.sliceBound, asIntOf, Sem.run_pure, sizeOf, typeInfo, run_program, hi]
    simp [hlen, hq, Int.le_refl]
    intro hne
    have := hadd
    simp only [Nat.zero_mul] at this
    exact this
theorem dx_max {x y : Operand} {ts : Array TypeId} {K : IntKind} {m n : Int} (ho : o.op = .call { callee := .builtin .max, args := #[x, y], argTypes := ts }) (hx : ev f x = some (.int K m)) (hy : ev f y = some (.int K n)) (hw : wantF ops o f = some true := by rfl) : DV P ops o N f w (.int K (if m < n then n else m)) := fun a ha => by
  have hx := ha.ev hx
  have hy := ha.ev hy
  refine Does.pure (wantF_of ha hw) _ ?_ ⟨rfl, rfl⟩
  unfold execOp
  simp only [ho, resolve, invoke, builtin, Sem.run_bind, Sem.run_pure, Result.andThen_ok, List.map_toArray, List.map_cons, List.map_nil, hx, hy, Builtin.max_, List.foldlM_cons, List.foldlM_nil, Builtin.max2]
theorem dx_min {x y : Operand} {ts : Array TypeId} {K : IntKind} {m n : Int} (ho : o.op = .call { callee := .builtin .min, args := #[x, y], argTypes := ts }) (hx : ev f x = some (.int K m)) (hy : ev f y = some (.int K n)) (hw : wantF ops o f = some true := by rfl) : DV P ops o N f w (.int K (if n < m then n else m)) := fun a ha => by
  have hx := ha.ev hx
  have hy := ha.ev hy
  refine Does.pure (wantF_of ha hw) _ ?_ ⟨rfl, rfl⟩
  unfold execOp
  simp only [ho, resolve, invoke, builtin, Sem.run_bind, Sem.run_pure, Result.andThen_ok, List.map_toArray, List.map_cons, List.map_nil, hx, hy, Builtin.min_, List.foldlM_cons, List.foldlM_nil, Builtin.min2]
theorem eqIn_nil {t : TypeId} {e : TypeId} (hu : P.underlying t = some (.slice e)) (d : Nat) (a : Addr) (n c : Nat) : (Op.equalIn (d + 1) t (.slice (some a) n c) (.slice none 0 0)).run P w = .ok false w := by
  simp [Op.equalIn, run_underlying hu]
theorem dx_nilF {t t' s : Nat} {L : List Nat} {x : Operand} {v : Value} {rs : List (List Value)} {e : TypeId} (ho : o.op = .binOp .eql t x (.const (.slice none 0 0)) t') (hu : P.underlying t = some (.slice e)) (hx : ev f x = some v) (hr : RdF s L w v rs) (hn : rs ≠ []) (hw : wantF ops o f = some true := by rfl) : DV P ops o N f w (.bool false) := fun a ha => by
  obtain ⟨h0, hl, ad, cap, rfl, h2, h3, h4, h5⟩ := hr
  obtain ⟨X, o0, rfl, _, _⟩ := h5 hn
  have hx := ha.ev hx
  have e1 : binOp .eql t (.slice (some ⟨X, o0, none⟩) rs.length cap) (.slice none 0 0) = (do pure (.bool (← Op.equal t (.slice (some ⟨X, o0, none⟩) rs.length cap) (.slice none 0 0)))) := rfl
  have e2 : (Op.equal t (.slice (some ⟨X, o0, none⟩) rs.length cap) (.slice none 0 0)).run P w = .ok false w := eqIn_nil hu 9999 _ _ _
  exact Does.pure (wantF_of ha hw) _ (by unfold execOp; simp only [ho, hx, eval_c, eqGuard, Sem.run_bind, Sem.run_pure, Result.andThen_ok, e1]; show ((((Sem.run P (Op.equal t (Value.slice (some { block := X, off := o0 }) rs.length cap) (Value.slice none 0 0)) w).andThen fun a w' => Result.ok (Value.bool a) w').andThen fun a w' => Result.ok (Next.value a) w') = _); rw [e2]; rfl) ⟨rfl, rfl⟩
theorem dx_lit0 {t s bytes : Nat} (ho : o.op = .buildSlice t 0 #[]) (ht : apB P t s bytes = true) (h0 : 0 < s) (hw : wantF ops o f = some true := by rfl) : DR P ops o N f w (NewO s w []) := by
  obtain ⟨e, i, Z, hu, hi, hZ, rfl, rfl, hzs⟩ := of_apB ht
  exact dx_lit (ps := []) (rs := []) ho hu hi hZ rfl h0 rfl (by omega) (by simp [Instr.fill]) (by simp) rfl (by unfold maxLen; omega) hw
theorem fill_one (s : Nat) (cells : Array Value) (hc : cells.size = s) (V : Value) (hV : V.cells.size = s) : Instr.fill (fun k => some (k * s, s)) cells [(0, V)] = some V.cells := by
  have key : ∀ (l : List (Value × Nat)) (cs : Array Value), l.foldl (fun cs (p : Value × Nat) => cs.setIfInBounds (0 * s + p.2) p.1) cs = l.foldl (fun cs (p : Value × Nat) => cs.setIfInBounds p.2 p.1) cs := by
    intro l; induction l with
    | nil => intro cs; rfl
    | cons x l ih => intro cs; simp only [List.foldl_cons, Nat.zero_mul, Nat.zero_add]
  have gen : ∀ (l : List Value) (k : Nat) (cs : Array Value), k + l.length = cs.size → ((l.zipIdx k).foldl (fun cs (p : Value × Nat) => cs.setIfInBounds p.2 p.1) cs).toList = cs.toList.take k ++ l := by
    intro l
    induction l with
    | nil => intro k cs h; simp only [List.length_nil, Nat.add_zero] at h; rw [List.take_of_length_le (by simp [h])]; simp
    | cons x l ih =>
      intro k cs h
      simp only [List.zipIdx_cons, List.foldl_cons]
      rw [ih (k + 1) _ (by simp at h ⊢; omega)]
      have hk : k < cs.toList.length := by simp at h ⊢; omega
      rw [Array.toList_setIfInBounds, List.take_succ_eq_append_getElem (by simpa using hk)]
      simp only [List.getElem_set_self, List.append_assoc, List.singleton_append, List.cons_append, List.nil_append]
      congr 1
      rw [List.take_set, List.set_eq_of_length_le (by rw [List.length_take]; omega)]
  unfold Instr.fill
  simp only [Nat.zero_mul, hV, hc, ne_eq, not_true_eq_false, Nat.zero_add, Nat.lt_irrefl, gt_iff_lt, or_self, if_false, Instr.fill, Bool.or_self, decide_false, decide_true]
  simp only [← Array.foldl_toList, Array.toList_zipIdx]
  have h2 := gen V.cells.toList 0 cells (by simp [hV, hc])
  have h3 : (List.foldl (fun cs (p : Value × Nat) => cs.setIfInBounds p.2 p.1) cells (V.cells.toList.zipIdx 0)) = V.cells := by
    apply Array.ext'
    rw [h2]; simp
  simpa using h3
theorem dx_lit1 {t s bytes : Nat} {x : Operand} {V : Value} {r : List Value} (ho : o.op = .buildSlice t 1 #[(0, x)]) (ht : apB P t s bytes = true) (h0 : 0 < s) (hs : s ≤ 16777216) (hx : ev f x = some V) (hV : V.cells.toList = r) (hl : r.length = s) (hw : wantF ops o f = some true := by rfl) : DR P ops o N f w (NewO s w [r]) := by
  obtain ⟨e, i, Z, hu, hi, hZ, rfl, rfl, hzs⟩ := of_apB ht
  have hVs : V.cells.size = i.size := by rw [← Array.length_toList, hV, hl]
  refine dx_lit (ps := [(0, V)]) (rs := [r]) ho hu hi hZ rfl h0 (by simp [evl, hx]) (by omega) ?_ (by simpa using hl) rfl (by unfold maxLen; omega) hw
  rw [if_neg (by omega), fill_one i.size _ (by simp) V hVs]
  simp [← hV]
theorem LL.grow {L : List Nat} {w w' : World} {B B' : Nat} (h : LL L w) (hg : GrowB B B' w w') (hB : B' < w'.heap.size) : LL (B' :: L) w' := fun x hx => by
  cases hx with
  | head => exact hB
  | tail _ hx => exact Nat.lt_of_lt_of_le (h x hx) hg.size
theorem RdF.grow' {s : Nat} {L : List Nat} {B B' : Nat} {w w' : World} {v : Value} {rs : List (List Value)} (h : RdF s L w v rs) (hg : GrowB B B' w w') (hB : B ∈ L) : RdF s (B' :: L) w' v rs := by
  have hh := h
  obtain ⟨h0, hr, a, cap, h1, h2, h3, h4, h5⟩ := h
  refine ⟨h0, hr, a, cap, h1, h2, h3, h4, fun hn => ?_⟩
  obtain ⟨X, o, e, hX, hc⟩ := h5 hn
  subst h1
  have hlt := rdf_lt hh e hn
  have hXB : X ≠ B := fun e => hX (e ▸ hB)
  refine ⟨X, o, e, ?_, fun j v hj => ?_⟩
  · simp only [List.mem_cons, not_or]
    refine ⟨?_, hX⟩
    cases hg.new with
    | inl e => rw [e]; exact hXB
    | inr e => omega
  · rw [← hc j v hj]
    exact World.cell?_of_block (hg.block X hlt hXB)
theorem OwS.len {s : Nat} {w : World} {v : Value} {rs : List (List Value)} {B : Nat} (h : OwS s w v rs B) : rs.length ≤ maxLen := by
  obtain ⟨h0, hr, cap, sp, rfl, h2, h3, h4, h5⟩ := h
  omega
theorem OwS.grow {s : Nat} {w w' : World} {v : Value} {rs : List (List Value)} {B C C' : Nat} (h : OwS s w v rs B) (hg : GrowB C C' w w') (hn : B ≠ C) : OwS s w' v rs B := by
  obtain ⟨h0, hr, cap, sp, h1, h2, h3, h4, h5⟩ := h
  exact ⟨h0, hr, cap, sp, h1, h2, h3, h4, h5.grow hg hn⟩
theorem OwS.grow_ne {s : Nat} {w w' : World} {v : Value} {rs : List (List Value)} {B C C' : Nat} (h : OwS s w v rs B) (hg : GrowB C C' w w') (hn : B ≠ C) : B ≠ C' := by
  obtain ⟨h0, hr, cap, sp, h1, h2, h3, h4, h5⟩ := h
  exact h5.grow_ne hg hn
/-- The beginning of an array, as a slice. -/
theorem dx_sliceA {t e : TypeId} {x y : Operand} {n B o0 : Nat} {h : Int} (k : Nat) (ho : o.op = .slice t x none (some y) none) (hu : P.underlying t = some (.array n e)) (hs : sizeB P e 1 = true) (hx : ev f x = some (.pointer (some ⟨B, o0, none⟩))) (hy : ev f y = some (.int .i64 h)) (hk : h = (k : Int)) (hh : k ≤ n) (h0 : 0 < n) (hw : wantF ops o f = some true := by rfl) : DV P ops o N f w (.slice (some ⟨B, o0, none⟩) k n) := fun a ha => by
  subst hk
  have hx := ha.ev hx
  have hy := ha.ev hy
  obtain ⟨i, hi, hsz⟩ := of_sizeB hs
  have hle : (k : Int) ≤ (n : Int) := by omega
  refine Does.pure (wantF_of ha hw) _ ?_ ⟨rfl, rfl⟩
  unfold execOp
  simp only [ho, Option.map_none, Option.map_some, hx, hy, Instr.sliceAt, Sem.run_bind, run_underlying hu, Result.andThen_ok, Instr.sureAddr, Instr.sliceBounds, Instr.sliceBound, asIntOf, Sem.run_pure, sizeOf, typeInfo, run_program, hi]
  simp [hle, addr_at]
theorem dx_sliceAA {t e : TypeId} {x : Operand} {n B o0 : Nat} (ho : o.op = .slice t x none none none) (hu : P.underlying t = some (.array n e)) (hs : sizeB P e 1 = true) (hx : ev f x = some (.pointer (some ⟨B, o0, none⟩))) (h0 : 0 < n) (hw : wantF ops o f = some true := by rfl) : DV P ops o N f w (.slice (some ⟨B, o0, none⟩) n n) := fun a ha => by
  have hx := ha.ev hx
  obtain ⟨i, hi, hsz⟩ := of_sizeB hs
  refine Does.pure (wantF_of ha hw) _ ?_ ⟨rfl, rfl⟩
  unfold execOp
  simp only [ho, Option.map_none, hx, Instr.sliceAt, Sem.run_bind, run_underlying hu, Result.andThen_ok, Instr.sureAddr, Instr.sliceBounds, Sem.run_pure, sizeOf, typeInfo, run_program, hi]
  simp [addr_at]
/-- A copy to the beginning of a block of the call's own. -/
theorem dx_copy {x y : Operand} {t t' : TypeId} {B X o2 n c m c' : Nat} {cs ys : List Value} (ho : o.op = .call { callee := .builtin .copy, args := #[x, y], argTypes := #[t, t'] }) (ht : sliceB P t 1 = true) (hx : ev f x = some (.slice (some ⟨B, 0, none⟩) n c)) (hy : ev f y = some (.slice (some ⟨X, o2, none⟩) m c')) (hb : Blk w B cs) (hr : w.rangeAt X o2 ys) (hm : ys.length = m) (hn : n ≤ cs.length) (hnm : n ≤ m) (h1 : ∀ v ∈ ys, v.oneCell' = true) (hw : wantF ops o f = some true := by rfl) :
    DR P ops o N f w fun v W => v = .int .i64 (n : Int) ∧ Blk W B (ys.take n ++ cs.drop n) ∧ Only B w W := fun a ha => by
  have hx := ha.ev hx
  have hy := ha.ev hy
  obtain ⟨e, hu, hs⟩ := of_sliceB ht
  obtain ⟨tt, hb'⟩ := hb
  have hmin : Nat.min m n = n := Nat.min_eq_right hnm
  cases hi : P.info? e with
  | none => rw [hi] at hs; cases hs
  | some q =>
    have hq : q.size = 1 := by simpa [hi] using hs
    have hf := run_firstCells_some (P := P) w q.size n ⟨X, o2, none⟩ m c' (ys.take n) (by rw [hq, List.length_take]; omega) (fun j u hj => by
      rw [List.getElem?_take] at hj
      split at hj
      · rw [addr_at]; exact hr j u hj
      · cases hj)
    have hst := run_storeCells_at P B 0 tt (ys.take n) 0 _ w hb' (by simp; omega) (fun v hv => h1 v (List.mem_of_mem_take hv))
    simp only [Nat.add_zero, List.take_zero, List.nil_append, Nat.zero_add] at hst
    have hlen : (ys.take n).length = n := by rw [List.length_take]; omega
    rw [hlen] at hst
    exact Does.of_wp (wantF_of ha hw) fun K hK => by
      unfold Oper.wp execOp
      simp only [ho, resolve, invoke, builtin, Sem.run_bind, Sem.run_pure, Result.andThen_ok, List.map_toArray, List.map_cons, List.map_nil, hx, hy, Builtin.copy_, run_underlying hu, List.getElem?_toArray, List.getElem?_cons_zero, List.getElem?_cons_succ, Builtin.lenOf, hmin, sizeOf, typeInfo, run_program, hi, hf, hst]
      have hfin : Blk (w.setRow B (ys.take n ++ cs.toArray.toList.drop n).toArray) B (ys.take n ++ cs.drop n) := ⟨tt, by rw [setRow_heap w B _ _ tt (0, 0) hb']⟩
      exact hK _ _ ⟨rfl, hfin, only_setRow w B _⟩
/-- A struct of parts of one cell each. -/
def builtO (P : Program) (t : TypeId) (ps : List (Nat × Value)) : Option (List Value) := match P.info? t, P.underlying t with
  | some it, some (.struct fs) => match it.zero, fs.toList.mapM (fun f => (P.info? f.type).map fun i => (f.offset, i.size)) with
    | some z, some places => ps.foldl (fun (acc : Option (List Value)) (p : Nat × Value) => acc.bind fun cs => match places[p.1]? with
        | some (off, 1) => if off < cs.length then some (cs.set off p.2) else none
        | _ => none) (some z.cells.toList)
    | _, _ => none
  | _, _ => none
theorem built_of_O {t : TypeId} {ps : List (Nat × Value)} {cs : List Value} (h : builtO P t ps = some cs) (h1 : ∀ v ∈ ps.map (·.2), v.oneCell' = true) : P.built t ps = some cs.toArray := by
  unfold builtO at h
  unfold Program.built
  cases hi : P.info? t with
  | none => rw [hi] at h; cases h
  | some it =>
    cases hu : P.underlying t with
    | none => rw [hi, hu] at h; cases h
    | some d =>
      rw [hi, hu] at h
      cases d <;> simp only [reduceCtorEq] at h
      rename_i fs
      simp only
      cases hz : it.zero with
      | none => rw [hz] at h; cases h
      | some z =>
        rw [hz] at h
        cases hp : fs.toList.mapM (fun f => (P.info? f.type).map fun i => (f.offset, i.size)) with
        | none => rw [hp] at h; cases h
        | some places =>
          rw [hp] at h
          simp only at h ⊢
          have key : ∀ (ps : List (Nat × Value)) (acc cs : List Value), (∀ v ∈ ps.map (·.2), v.oneCell' = true) → ps.foldl (fun (acc : Option (List Value)) (p : Nat × Value) => acc.bind fun cs => match places[p.1]? with
              | some (off, 1) => if off < cs.length then some (cs.set off p.2) else none
              | _ => none) (some acc) = some cs → Instr.fill (places.toArray[·]?) acc.toArray ps = some cs.toArray := by
            have none_ : ∀ (ps : List (Nat × Value)), ps.foldl (fun (acc : Option (List Value)) (p : Nat × Value) => acc.bind fun cs => match places[p.1]? with
              | some (off, 1) => if off < cs.length then some (cs.set off p.2) else none
              | _ => none) none = none := by
              intro ps; induction ps with
              | nil => rfl
              | cons p ps ih => simpa using ih
            intro ps
            induction ps with
            | nil => intro acc cs _ h; simp at h; simp [Instr.fill, h]
            | cons p ps ih =>
              intro acc cs h1 h
              obtain ⟨i, v⟩ := p
              simp only [List.foldl_cons, Option.bind_some] at h
              have hv : v.oneCell' = true := h1 v (by simp)
              have hcs : v.cells = #[v] := by cases v <;> simp_all [Value.cells, Value.oneCell']
              unfold Instr.fill
              simp only [List.getElem?_toArray]
              cases hpl : places[i]? with
              | none => rw [hpl] at h; simp only [none_] at h; cases h
              | some q =>
                obtain ⟨off, sz⟩ := q
                rw [hpl] at h
                by_cases hsz : sz = 1
                · subst hsz
                  simp only at h
                  by_cases hlt : off < acc.length
                  · rw [if_pos hlt] at h
                    have := ih (acc.set off v) cs (fun u hu => h1 u (by simp at hu ⊢; exact .inr hu)) h
                    simp only [hcs]
                    simp
                    exact ⟨by omega, by simpa using this⟩
                  · rw [if_neg hlt, none_] at h; cases h
                · exfalso
                  split at h
                  · rename_i heq; simp at heq; exact hsz heq.2
                  · rw [none_] at h; cases h
          exact key ps _ _ h1 h
end
/-- A slice with no room behind it. -/
def FulF (s : Nat) (L : List Nat) (w : World) (u : Value) (rs : List (List Value)) : Prop := ∃ a, u = .slice a rs.length rs.length ∧ RdF s L w u rs
theorem FulF.below {s : Nat} {L : List Nat} {w w' : World} {v : Value} {rs : List (List Value)} (h : FulF s L w v rs) (hb : Below w.heap.size w w') : FulF s L w' v rs := by
  obtain ⟨a, h1, h2⟩ := h
  exact ⟨a, h1, h2.below hb⟩
end Go.Proofs.YtohnicmacmkapaaDoor
namespace Go.Proofs.YtohnicmacmkapaaDoor
open Go.RowKit
set_option linter.unusedVariables false
set_option linter.unusedSimpArgs false
set_option maxRecDepth 8000

section
variable {P : Program} {ops : Array Oper} {o : Oper} {N : Nat} {f : Fl} {w : World}
theorem run_partI (e : TypeId) (d : TypeDesc) (he : P.underlying e = some d) (hd : (match d with | .struct _ | .array _ _ => true | _ => false) = false) (K : IntKind) (zs : List Int) (i : Nat) (hi : i < zs.length) :
    (part e (zs.map (Value.int K)).toArray i).run P w = .ok (.int K (at0 zs i)) w := by
  have hagg : (isAgg e).run P w = .ok false w := by
    unfold isAgg
    rw [Sem.run_bind, run_underlying he w]
    cases d <;> simp_all
  simp [part, Sem.run_bind, hagg, hi, at0]
theorem run_eqItemsI (d : Nat) (e : TypeId) (K K' : IntKind) (xs ys : List Int) (he : P.underlying e = some (.int K')) : ∀ is : List Nat, (∀ i ∈ is, i < xs.length ∧ i < ys.length) →
    (Op.eqItems (d + 1) e 1 (xs.map (Value.int K)).toArray (ys.map (Value.int K)).toArray is).run P w = .ok (decide (∀ i ∈ is, at0 xs i = at0 ys i)) w
  | [], _ => by simp [Op.eqItems]
  | i :: is, h => by
    have h1 := run_partI (w := w) e _ he rfl K xs i (h i (by simp)).1
    have h2 := run_partI (w := w) e _ he rfl K ys i (h i (by simp)).2
    have h3 := run_eqItemsI d e K K' xs ys he is (fun j hj => h j (by simp [hj]))
    have h4 := run_equalIn_int (P := P) w d e K K' (at0 xs i) (at0 ys i) he
    simp only [Op.eqItems, Sem.run_bind, Nat.mul_one, h1, h2, h4, Result.andThen_ok]
    by_cases hb : at0 xs i = at0 ys i
    · simp [hb, h3]
    · simp [hb]
theorem run_eqI (t e : TypeId) (n : Nat) (hu : P.underlying t = some (.array n e)) (K K' : IntKind) (he : P.underlying e = some (.int K')) (hc : (P.info? e).map (·.size) = some 1) (hg : P.eqGuardType P.depth t = false) (x y : Operand) (xs ys : List Int) (hx : xs.length = n) (hy : ys.length = n) :
    (do eqGuard .eql t x y (aggI K xs) (aggI K ys); binOp .eql t (aggI K xs) (aggI K ys) : Sem Value).run P w = .ok (.bool (decide (xs = ys))) w := by
  cases hi : P.info? e with
  | none => rw [hi] at hc; cases hc
  | some i =>
    have hcells : P.cellsOf e = 1 := by simp [Program.cellsOf, hc]
    have hq : (eqGuard .eql t x y (aggI K xs) (aggI K ys)).run P w = .ok () w := by
      simp [eqGuard, aggI, Sem.run_bind, hg]
    have hall : (∀ i ∈ List.range n, at0 xs i = at0 ys i) ↔ xs = ys := by
      constructor
      · intro h
        exact eq_of_all (by omega) fun j hj => h j (List.mem_range.2 (by omega))
      · rintro rfl _ _; rfl
    simp only [Sem.run_bind, hq, Result.andThen_ok]
    unfold aggI
    rw [run_eql_struct, show (10000 : Nat) = 9999 + 1 from rfl, run_equalIn_array w 9999 _ _ hu hi, hcells, show (9999 : Nat) = 9998 + 1 from rfl, run_eqItemsI 9998 e K K' xs ys he (List.range n) (fun i hi => by have := List.mem_range.1 hi; omega)]
    simp only [Result.andThen_ok]
    congr 2
    exact decide_eq_decide.2 hall
theorem run_equalI (t e : TypeId) (n : Nat) (hu : P.underlying t = some (.array n e)) (K K' : IntKind) (he : P.underlying e = some (.int K')) (hc : (P.info? e).map (·.size) = some 1) (d : Nat) (xs ys : List Int) (hx : xs.length = n) (hy : ys.length = n) :
    (Op.equalIn (d + 2) t (aggI K xs) (aggI K ys)).run P w = .ok (decide (xs = ys)) w := by
  cases hi : P.info? e with
  | none => rw [hi] at hc; cases hc
  | some i =>
    have hcells : P.cellsOf e = 1 := by simp [Program.cellsOf, hc]
    have hall : (∀ i ∈ List.range n, at0 xs i = at0 ys i) ↔ xs = ys := by
      constructor
      · intro h
        exact eq_of_all (by omega) fun j hj => h j (List.mem_range.2 (by omega))
      · rintro rfl _ _; rfl
    unfold aggI
    rw [run_equalIn_array w (d + 1) _ _ hu hi, hcells, run_eqItemsI d e K K' xs ys he (List.range n) (fun i hi => by have := List.mem_range.1 hi; omega)]
    congr 1
    exact decide_eq_decide.2 hall
theorem dx_eqA {t t' e : TypeId} {x y : Operand} {n : Nat} {K K' : IntKind} {xs ys : List Int} (ho : o.op = .binOp .eql t x y t') (hu : P.underlying t = some (.array n e)) (he : P.underlying e = some (.int K')) (hc : sizeB P e 1 = true) (hg : P.eqGuardType P.depth t = false) (hx : ev f x = some (aggI K xs)) (hy : ev f y = some (aggI K ys)) (hxl : xs.length = n) (hyl : ys.length = n) (hw : wantF ops o f = some true := by rfl) : DV P ops o N f w (.bool (decide (xs = ys))) := fun a ha => by
  have hx := ha.ev hx
  have hy := ha.ev hy
  refine Does.pure (wantF_of ha hw) _ ?_ ⟨rfl, rfl⟩
  unfold execOp
  have h := run_eqI (w := w) t e n hu K K' he (of_sizeM hc) hg x y xs ys hxl hyl
  simp only [ho, hx, hy, Sem.run_bind] at h ⊢
  rw [h]
  rfl
theorem dx_neqA {t t' e : TypeId} {x y : Operand} {n : Nat} {K K' : IntKind} {xs ys : List Int} (ho : o.op = .binOp .neq t x y t') (hu : P.underlying t = some (.array n e)) (he : P.underlying e = some (.int K')) (hc : sizeB P e 1 = true) (hg : P.eqGuardType P.depth t = false) (hx : ev f x = some (aggI K xs)) (hy : ev f y = some (aggI K ys)) (hxl : xs.length = n) (hyl : ys.length = n) (hw : wantF ops o f = some true := by rfl) : DV P ops o N f w (.bool (!decide (xs = ys))) := fun a ha => by
  have hx := ha.ev hx
  have hy := ha.ev hy
  have hq : (eqGuard .neq t x y (aggI K xs) (aggI K ys)).run P w = .ok () w := by
    simp [eqGuard, aggI, Sem.run_bind, hg]
  have h := run_equalI (w := w) t e n hu K K' he (of_sizeM hc) 9998 xs ys hxl hyl
  have e1 : binOp .neq t (aggI K xs) (aggI K ys) = (do pure (.bool (!(← Op.equal t (aggI K xs) (aggI K ys))))) := rfl
  have e2 : (Op.equal t (aggI K xs) (aggI K ys)).run P w = .ok (decide (xs = ys)) w := h
  exact Does.pure (wantF_of ha hw) _ (by unfold execOp; simp only [ho, hx, hy, Sem.run_bind, hq, Result.andThen_ok, e1, e2, Sem.run_pure]) ⟨rfl, rfl⟩
theorem dx_eqB {t t' : TypeId} {x y : Operand} {b c : Bool} (ho : o.op = .binOp .eql t x y t') (hu : P.underlying t = some .bool) (hx : ev f x = some (.bool b)) (hy : ev f y = some (.bool c)) (hw : wantF ops o f = some true := by rfl) : DV P ops o N f w (.bool (decide (b = c))) := fun a ha => by
  have hx := ha.ev hx
  have hy := ha.ev hy
  have e1 : binOp .eql t (.bool b) (.bool c) = (do pure (.bool (← Op.equal t (.bool b) (.bool c)))) := rfl
  have e2 : (Op.equal t (.bool b) (.bool c)).run P w = .ok (b == c) w := run_equalIn_bool' w 9999 t b c hu
  have e3 : (b == c) = decide (b = c) := by cases b <;> cases c <;> rfl
  exact Does.pure (wantF_of ha hw) _ (by unfold execOp; simp only [ho, hx, hy, eqGuard, Sem.run_bind, Sem.run_pure, Result.andThen_ok, e1]; simp [e2, e3]) ⟨rfl, rfl⟩
theorem dx_neqB {t t' : TypeId} {x y : Operand} {b c : Bool} (ho : o.op = .binOp .neq t x y t') (hu : P.underlying t = some .bool) (hx : ev f x = some (.bool b)) (hy : ev f y = some (.bool c)) (hw : wantF ops o f = some true := by rfl) : DV P ops o N f w (.bool (!decide (b = c))) := fun a ha => by
  have hx := ha.ev hx
  have hy := ha.ev hy
  have e1 : binOp .neq t (.bool b) (.bool c) = (do pure (.bool (!(← Op.equal t (.bool b) (.bool c))))) := rfl
  have e2 : (Op.equal t (.bool b) (.bool c)).run P w = .ok (b == c) w := run_equalIn_bool' w 9999 t b c hu
  have e3 : (b == c) = decide (b = c) := by cases b <;> cases c <;> rfl
  exact Does.pure (wantF_of ha hw) _ (by unfold execOp; simp only [ho, hx, hy, eqGuard, Sem.run_bind, Sem.run_pure, Result.andThen_ok, e1]; simp [e2, e3]) ⟨rfl, rfl⟩
end
end Go.Proofs.YtohnicmacmkapaaDoor
namespace Go.Proofs.YtohnicmacmkapaaDoor
open Go.ChangeShapes Go.WideShapes Go.ChangeAt Go.RowKit
set_option linter.unusedVariables false

theorem choose_list {α : Type} (p : Nat → α → Prop) : ∀ n, (∀ i, i < n → ∃ a, p i a) → ∃ xs : List α, xs.length = n ∧ ∀ i x, xs[i]? = some x → p i x
  | 0, _ => ⟨[], rfl, fun i x h => by simp at h⟩
  | n + 1, h => by
    obtain ⟨xs, hl, hx⟩ := choose_list p n fun i hi => h i (by omega)
    obtain ⟨a, ha⟩ := h n (by omega)
    refine ⟨xs ++ [a], by simp [hl], fun i x hi => ?_⟩
    rw [List.getElem?_append] at hi
    split at hi
    · exact hx i x hi
    · rename_i hlt
      have : i = n := by
        have := (List.getElem?_eq_some_iff.1 hi).1
        simp at this
        omega
      subst this
      rw [hl, Nat.sub_self] at hi
      cases hi
      exact ha
theorem range_flat {w : World} {X s : Nat} : ∀ (rs : List (List Value)) (o : Nat), (∀ r ∈ rs, r.length = s) → (∀ i r, rs[i]? = some r → w.rangeAt X (o + i * s) r) → w.rangeAt X o rs.flatten
  | [], o, _, _ => fun j v hj => by simp at hj
  | r :: rs, o, hl, h => fun j v hj => by
    have hr := hl r (by simp)
    rw [List.flatten_cons, List.getElem?_append] at hj
    split at hj
    · have := h 0 r rfl j v hj
      simpa using this
    · rename_i hge
      have ih := range_flat rs (o + s) (fun r hr => hl r (List.mem_cons_of_mem _ hr)) (fun i r hi => by
        have := h (i + 1) r (by simpa using hi)
        rw [Nat.succ_mul] at this
        rw [show o + s + i * s = o + (i * s + s) by omega]; exact this)
      have := ih (j - r.length) v hj
      rw [hr] at this hge
      rw [show o + s + (j - s) = o + j by omega] at this
      exact this
section
variable {P : Program} {H : Type} {enc : TypeId × Value → H} {W : World} {base : Nat} {sp : Nat → Bool} {held : Bool}
theorem rd_of_slice {α : Type} (en : α → List Value) (good : α → Prop) {s : Nat} (hs : 0 < s) {t e : TypeId} {fuel : Nat} {cs : List Value} {x : DataW H × List MemPlace} (ht : P.underlying t = some (.slice e)) (hce : P.cellsOf e = s) (hl : ∀ a, good a → (en a).length = s)
    (hel : ∀ n cs x, DataW.trod enc P W base sp held n e cs = some x → ∃ a, cs = en a ∧ good a) (h : DataW.trod enc P W base sp held fuel t cs = some x) : ∃ (v : Value) (xs : List α), cs = [v] ∧ RdF s [] W v (xs.map en) ∧ ∀ a ∈ xs, good a := by
  rcases DataW.trod_slice ht h with ⟨rfl, _⟩ | ⟨a, len, cap, elems, rest, n, rfl, rfl, _, hb, hlc, hcm, hlen, hx, _⟩
  · exact ⟨_, [], rfl, RdF.nil hs, fun a ha => by cases ha⟩
  · obtain ⟨xs, hxl, hxs⟩ := choose_list (fun i (y : α) => good y ∧ W.cells? base (a.add (i * s)) s = some (en y)) len (fun i hi => by
      have h1 := hx i hi
      rw [hce, List.getElem?_eq_getElem (by omega)] at h1
      obtain ⟨cs', h2, h3⟩ := Option.bind_eq_some_iff.1 h1
      obtain ⟨y, rfl, hg⟩ := hel n cs' _ h3
      exact ⟨y, hg, h2⟩)
    have hgood : ∀ y ∈ xs, good y := fun y hy => by
      obtain ⟨i, hi⟩ := List.getElem?_of_mem hy
      exact (hxs i y hi).1
    have hrl : ∀ r ∈ xs.map en, r.length = s := fun r hr => by
      obtain ⟨y, hy, rfl⟩ := List.mem_map.1 hr
      exact hl y (hgood y hy)
    refine ⟨_, xs, rfl, ⟨hs, hrl, some a, cap, by rw [List.length_map, hxl], by rw [List.length_map, hxl]; exact hlc, hcm, (fun e => by cases e), fun hn => ?_⟩, hgood⟩
    have cellat : ∀ i y, xs[i]? = some y → ∀ j v, (en y)[j]? = some v → W.cell? ((a.add (i * s)).add j) = some v := fun i y hi j v hj => by
      have h2 := (hxs i y hi).2
      unfold World.cells? at h2
      split at h2
      · have hj' : j < s := by have := (List.getElem?_eq_some_iff.1 hj).1; rw [hl y (hxs i y hi).1] at this; exact this
        have := mapM_some_get h2 j j (by simp [hj'])
        rw [this]; exact hj
      · cases h2
    have hne : 0 < xs.length := by
      rcases Nat.eq_zero_or_pos xs.length with h0 | h0
      · exact absurd (by rw [List.length_eq_zero_iff.1 h0]; rfl) hn
      · exact h0
    have hx0 : xs[0]? = some xs[0] := List.getElem?_eq_getElem hne
    have hspot : a.spot = none := by
      have hlen0 : 0 < (en xs[0]).length := by rw [hl _ (hxs 0 _ hx0).1]; exact hs
      have := cellat 0 _ hx0 0 _ (List.getElem?_eq_getElem hlen0)
      have h3 := World.cell?_spot this
      have e0 : (a.add (0 * s)).add 0 = a := by simp [Addr.add]
      rw [e0] at h3
      exact h3
    obtain ⟨b, off, spot⟩ := a
    simp only at hspot
    subst hspot
    refine ⟨b, off, rfl, by simp, range_flat _ off hrl fun i r hi => ?_⟩
    rw [List.getElem?_map] at hi
    cases hy : xs[i]? with
    | none => rw [hy] at hi; cases hi
    | some y =>
      rw [hy] at hi
      cases hi
      intro j v hj
      have := cellat i y hy j v hj
      rw [addr_at, addr_at] at this
      exact this
theorem cells_one : ∀ (n : Nat) (K : IntKind) (cs : List Value), cs.length = n → (∀ i, i < n → ∃ x, (cs.drop i).take 1 = [.int K x] ∧ (Lit.int K x).wf = true) → ∃ zs : List Int, cs = zs.map (Value.int K) ∧ zs.length = n ∧ ∀ x ∈ zs, (Lit.int K x).wf = true
  | 0, K, cs, hl, _ => ⟨[], by simpa using List.eq_nil_of_length_eq_zero hl, rfl, fun x hx => by cases hx⟩
  | n + 1, K, [], hl, _ => by simp at hl
  | n + 1, K, c :: cs, hl, h => by
    obtain ⟨x, hx, hw⟩ := h 0 (by omega)
    obtain ⟨zs, h1, h2, h3⟩ := cells_one n K cs (by simpa using hl) fun i hi => by simpa using h (i + 1) (by omega)
    simp at hx
    refine ⟨x :: zs, by simp [hx, h1], by simp [h2], fun y hy => ?_⟩
    rcases List.mem_cons.1 hy with rfl | hy
    · exact hw
    · exact h3 y hy
/-- The cells of an array of numbers. -/
theorem trod_arr {t e : TypeId} {K : IntKind} {n fuel : Nat} {cs : List Value} {x : DataW H × List MemPlace} (ht : P.underlying t = some (.array n e)) (he : P.underlying e = some (.int K)) (hc : P.cellsOf e = 1) (hct : P.cellsOf t = n) (h : DataW.trod enc P W base sp held fuel t cs = some x) :
    ∃ zs : List Int, cs = zs.map (Value.int K) ∧ zs.length = n ∧ ∀ x ∈ zs, (Lit.int K x).wf = true := by
  obtain ⟨xs, m, rfl, hx, hl, hxl, hi⟩ := DataW.trod_array ht h
  rw [hct] at hl
  rw [hc] at hi
  refine cells_one n K cs hl fun i hin => ?_
  have h := hi i hin
  rw [Nat.mul_one] at h
  rw [List.getElem?_eq_getElem (by omega)] at h
  obtain ⟨x, h1, h2, h3⟩ := DataW.trod_int he h
  exact ⟨x, h1, h3⟩
theorem open_arr {t e : TypeId} {K : IntKind} {n : Nat} {v : Value} {d : DataW H} {p : List MemPlace} (ht : P.underlying t = some (.array n e)) (he : P.underlying e = some (.int K)) (hc : P.cellsOf e = 1) (hct : P.cellsOf t = n) (hn : n ≠ 1) (h0 : DataW.Trod enc P W base sp held t v d p) :
    ∃ zs : List Int, v = .agg (zs.map (Value.int K)).toArray ∧ zs.length = n ∧ ∀ x ∈ zs, (Lit.int K x).wf = true := by
  obtain ⟨fuel, hf⟩ := h0
  obtain ⟨zs, h1, h2, h3⟩ := trod_arr ht he hc hct hf
  refine ⟨zs, ?_, h2, h3⟩
  cases v with
  | agg cs =>
    simp only [Value.cells] at h1
    rw [← h1]
  | _ => simp [Value.cells] at h1; have := congrArg List.length h1; simp at this; omega
end
end Go.Proofs.YtohnicmacmkapaaDoor
namespace Go.Proofs.YtohnicmacmkapaaDoor
open Go.RowKit
set_option linter.unusedVariables false
set_option linter.unusedSimpArgs false
/-- A literal of nothing: it has no room. -/
def NewE (s base : Nat) (u : Value) (w : World) : Prop := ∃ B, base ≤ B ∧ u = .slice (some ⟨B, 0, none⟩) 0 0 ∧ OwS s w u [] B
/-- A slice of the call's own, behind the world of the base. -/
def NewQ (s base : Nat) (rs : List (List Value)) (u : Value) (w : World) : Prop := ∃ B, base ≤ B ∧ OwS s w u rs B
theorem NewE.below {s base : Nat} {u : Value} {w w' : World} (h : NewE s base u w) (hb : Below w.heap.size w w') : NewE s base u w' := by
  obtain ⟨B, h1, h2, h3⟩ := h
  exact ⟨B, h1, h2, h3.below hb⟩
theorem NewE.le {s base n : Nat} {u : Value} {w : World} (h : NewE s base u w) (hn : n ≤ base) : NewE s n u w := by
  obtain ⟨B, h1, h2, h3⟩ := h
  exact ⟨B, Nat.le_trans hn h1, h2, h3⟩
theorem NewQ.below {s base : Nat} {rs : List (List Value)} {u : Value} {w w' : World} (h : NewQ s base rs u w) (hb : Below w.heap.size w w') : NewQ s base rs u w' := by
  obtain ⟨B, h1, h3⟩ := h
  exact ⟨B, h1, h3.below hb⟩
theorem NewQ.le {s base n : Nat} {rs : List (List Value)} {u : Value} {w : World} (h : NewQ s base rs u w) (hn : n ≤ base) : NewQ s n rs u w := by
  obtain ⟨B, h1, h3⟩ := h
  exact ⟨B, Nat.le_trans hn h1, h3⟩
section
variable {P : Program} {ops : Array Oper} {o : Oper} {N : Nat} {f : Fl} {w : World}
theorem dv_T {p : Prop} [Decidable p] (h : DV P ops o N f w (.bool (decide p))) (hp : p) : DV P ops o N f w (.bool true) := by rwa [decide_eq_true hp] at h
theorem dx_lit0E {t s bytes : Nat} (ho : o.op = .buildSlice t 0 #[]) (ht : apB P t s bytes = true) (h0 : 0 < s) (hw : wantF ops o f = some true := by rfl) : DR P ops o N f w (fun u W => Below w.heap.size w W ∧ NewE s w.heap.size u W) := fun a ha => by
  obtain ⟨e, i, Z, hu, hi, hZ, rfl, rfl, hzs⟩ := of_apB ht
  have hrun := run_buildSlice (P := P) (w := w) hu hi hZ 0 #[] (by omega) (cs := #[]) (by simp [Instr.fill])
  exact Does.of_wp (wantF_of ha hw) fun K hK => by
    unfold Oper.wp execOp
    simp only [ho, Sem.run_bind, List.map_toArray, List.map_nil, hrun, Sem.run_pure, Result.andThen_ok]
    obtain ⟨n1, n2, n3⟩ := newB_row w e []
    exact hK _ _ ⟨n2, _, Nat.le_refl _, rfl, h0, (fun r hr => by cases hr), 0, [], rfl, Nat.le_refl _, Nat.zero_le _, by simp, by simpa using n1⟩
theorem dx_apO' {t s bytes B : Nat} {x y : Operand} {v v2 : Value} {rs news : List (List Value)} {L : List Nat} (ho : o.op = .call { callee := .builtin .append, args := #[x, y], argTypes := #[t, t] }) (ht : apB P t s bytes = true) (hx : ev f x = some v) (hy : ev f y = some v2)
    (h : OwS s w v rs B) (h2 : RdF s L w v2 news) (h1 : ∀ r ∈ news, ∀ u ∈ r, u.oneCell' = true) (hm : rs.length + news.length ≤ maxLen) (hby : (rs.length + news.length) * bytes ≤ 140737488355328) (hw : wantF ops o f = some true := by rfl) : DR P ops o N f w (GrO s B w (rs ++ news)) := fun a ha => by
  obtain ⟨e, i, Z, hu, hi, hz, rfl, rfl, hzs⟩ := of_apB ht
  have hx := ha.ev hx
  have hy := ha.ev hy
  obtain ⟨v', w', B', hr, h3, h4⟩ := run_apO (w := w) (t := t) (ty := o.type) hu hi hz hzs h h2 h1 hm hby
  exact Does.of_wp (wantF_of ha hw) fun K hK => by
    unfold Oper.wp execOp
    simp only [ho, resolve, invoke, builtin, Sem.run_bind, Sem.run_pure, Result.andThen_ok, List.map_toArray, List.map_cons, List.map_nil, hx, hy, hr]
    exact hK _ _ ⟨B', h3, h4⟩
/-- An append to a literal of nothing: nothing changes, or what comes is new. -/
theorem dx_apE {t s bytes base : Nat} {x y : Operand} {u v2 : Value} {news : List (List Value)} {L : List Nat} (ho : o.op = .call { callee := .builtin .append, args := #[x, y], argTypes := #[t, t] }) (ht : apB P t s bytes = true) (hx : ev f x = some u) (hy : ev f y = some v2)
    (h : NewE s base u w) (h2 : RdF s L w v2 news) (hm : news.length ≤ maxLen) (hby : news.length * bytes ≤ 140737488355328) (hb : base ≤ w.heap.size) (hw : wantF ops o f = some true := by rfl) : DR P ops o N f w (fun u W => Below w.heap.size w W ∧ NewQ s base news u W) := fun a ha => by
  obtain ⟨B, h3, rfl, h4⟩ := h
  by_cases hn : news = []
  · subst hn
    have ht0 := ht
    obtain ⟨e, i, Z, hu, hi, hz, rfl, rfl, hzs⟩ := of_apB ht
    have hx := ha.ev hx
    have hy := ha.ev hy
    obtain ⟨_, _, a2, cap2, rfl, hd1, hd2, hd3, hd4⟩ := h2
    have hr : (Builtin.append_ #[t, t] o.type #[.slice (some ⟨B, 0, none⟩) 0 0, .slice a2 0 cap2]).run P w = .ok (.slice (some ⟨B, 0, none⟩) 0 0) w := by
      cases a2 with
      | none => simp [Builtin.append_, run_underlying hu, sizeOf, typeInfo, hi, Builtin.lenOf, Builtin.firstCells, storeCells]
      | some a2 => simp [Builtin.append_, run_underlying hu, sizeOf, typeInfo, hi, Builtin.lenOf, Builtin.firstCells, loadCells, loadCellsFrom, storeCells]
    exact Does.of_wp (wantF_of ha hw) fun K hK => by
      unfold Oper.wp execOp
      simp only [List.length_nil] at hy
      simp only [ho, resolve, invoke, builtin, Sem.run_bind, Sem.run_pure, Result.andThen_ok, List.map_toArray, List.map_cons, List.map_nil, hx, hy, hr]
      exact hK _ _ ⟨Below.refl _ _, B, h3, h4⟩
  · have hrd : RdF s [] w (.slice (some ⟨B, 0, none⟩) ([] : List (List Value)).length ([] : List (List Value)).length) [] := h4.rd (by simp)
    have := dx_apF (N := N) (f := f) (P := P) (ops := ops) (o := o) (w := w) (s := s) (rs := []) (news := news) (L := []) ho ht hx hy hrd (h2.less (by simp)) hn (by simpa using hm) (by simpa using hby) hw
    exact (this.mono fun v W' h => ⟨h.2.1, _, hb, by simpa using h.1⟩) a ha
end
end Go.Proofs.YtohnicmacmkapaaDoor
namespace Go.Proofs.YtohnicmacmkapaaDoor
open Go.RowKit
set_option linter.unusedVariables false
set_option linter.unusedSimpArgs false
/-- What the facts keep when the writer runs. -/
def VS.monoR (rel : World → World → Prop) : List (Option Tmp × VS) → Prop
  | [] => True
  | (_, .is _) :: l => VS.monoR rel l
  | (_, .by p) :: l => (∀ u W W', rel W W' → p u W → p u W') ∧ VS.monoR rel l
theorem monoR_at {rel : World → World → Prop} : ∀ {sd : List (Option Tmp × VS)}, VS.monoR rel sd → ∀ {j : Nat} {d : Option Tmp} {p : Value → World → Prop}, sd[j]? = some (d, .by p) → ∀ u W W', rel W W' → p u W → p u W'
  | [], _, j, d, p, h => by simp at h
  | (d', .is v) :: l, hm, j, d, p, h => by
    cases j with
    | zero => simp at h
    | succ j => exact monoR_at (sd := l) hm (by simpa using h)
  | (d', .by q) :: l, hm, j, d, p, h => by
    cases j with
    | zero =>
      simp only [List.getElem?_cons_zero, Option.some.injEq, Prod.mk.injEq, VS.by.injEq] at h
      rw [← h.2]
      exact hm.1
    | succ j => exact monoR_at (sd := l) hm.2 (by simpa using h)
/-- The steps, of which the one with number s writes to what the one with number t has made. -/
def DStepsR (P : Program) (ops : Array Oper) (N : Nat) (w0 : World) (sd : List (Option Tmp × VS)) (dl : List (List Nat)) (f : Fl) (s t dt : Nat) (pt q : Value → World → Prop) (rel : World → World → Prop) : Nat → List Oper → Prop
  | _, [] => True
  | k, o :: l => (if k = s then ∀ W, Below w0.heap.size w0 W → ∀ ut, pt ut W → DStep P ops o N W (sd.set t (some dt, .is ut)) (fun v W' => rel W W' ∧ q ut W') ((dl[k]?).getD []) f
      else ∀ W, Below w0.heap.size w0 W → DStep P ops o N W sd (fun v W' => Below W.heap.size W W' ∧ okAt sd k v W') ((dl[k]?).getD []) f) ∧ DStepsR P ops N w0 sd dl f s t dt pt q rel (k + 1) l
section
variable {P : Program} {N : Nat} {sd : List (Option Tmp × VS)} {dl : List (List Nat)}
theorem DStepsR.cons {ops : Array Oper} {w0 : World} {f : Fl} {k s t dt : Nat} {pt q : Value → World → Prop} {rel : World → World → Prop} {o : Oper} {l : List Oper} (hk : k ≠ s) (h : ∀ W, Below w0.heap.size w0 W → DStep P ops o N W sd (fun v W' => Below W.heap.size W W' ∧ okAt sd k v W') ((dl[k]?).getD []) f) (hl : DStepsR P ops N w0 sd dl f s t dt pt q rel (k + 1) l) : DStepsR P ops N w0 sd dl f s t dt pt q rel k (o :: l) := ⟨by rw [if_neg hk]; exact h, hl⟩
theorem DStepsR.hit {ops : Array Oper} {w0 : World} {f : Fl} {s t dt : Nat} {pt q : Value → World → Prop} {rel : World → World → Prop} {o : Oper} {l : List Oper} (h : ∀ W, Below w0.heap.size w0 W → ∀ ut, pt ut W → DStep P ops o N W (sd.set t (some dt, .is ut)) (fun v W' => rel W W' ∧ q ut W') ((dl[s]?).getD []) f) (hl : DStepsR P ops N w0 sd dl f s t dt pt q rel (s + 1) l) : DStepsR P ops N w0 sd dl f s t dt pt q rel s (o :: l) := ⟨by rw [if_pos rfl]; exact h, hl⟩
theorem okAt_set {t dt : Nat} {u : Value} {j : Nat} (hj : j ≠ t) (v : Value) (W : World) : okAt (sd.set t (some dt, .is u)) j v W = okAt sd j v W := by
  unfold okAt
  rw [List.getElem?_set_ne (fun e => hj e.symm)]
theorem okAt_hit {t dt : Nat} {u : Value} (ht : t < sd.length) (W : World) : okAt (sd.set t (some dt, .is u)) t u W := by
  unfold okAt
  rw [List.getElem?_set_self ht]
  rfl
theorem map_set {t dt : Nat} {s s' : VS} (ht : sd[t]? = some (some dt, s)) : (sd.set t (some dt, s')).map (·.1) = sd.map (·.1) := by
  apply List.ext_getElem?
  intro i
  rw [List.getElem?_map, List.getElem?_map]
  by_cases e : i = t
  · subst e
    rw [ht, List.getElem?_set_self (List.getElem?_eq_some_iff.1 ht).1]
    rfl
  · rw [List.getElem?_set_ne (fun h => e h.symm)]
theorem inN_set {t dt : Nat} {s s' : VS} (ht : sd[t]? = some (some dt, s)) (h : inN N sd = true) : inN N (sd.set t (some dt, s')) = true := by
  have key : ∀ (l : List (Option Tmp × VS)), inN N l = (l.map (·.1)).all fun p => match p with | some d => decide (d < N) | none => true := fun l => by
    unfold inN
    rw [List.all_map]
    rfl
  rw [key, map_set ht, ← key]
  exact h
/-- The rule. -/
theorem WC.drawR {id : Nat} {f : Fl} {w : World} {Q : Exit → Act → World → Prop} (m s t dt : Nat) (pt q : Value → World → Prop) (rel : World → World → Prop) {ops : List Oper} (sd : List (Option Tmp × VS)) (dl : List (List Nat)) (hm : P.follows .mixedOrders = true) (hb : ordB .any ops.toArray = true) (hbp : ordB .any (ops.take m).toArray = true) (htl : tailB .any ops.toArray (ops.take m).length = true) (hdl : (ops.take m).map (depsOf .any) = dl)
    (hds : (ops.take m).map (·.dst) = sd.map (·.1)) (hN : inN N sd = true) (hmono : VS.mono sd)
    (ht : sd[t]? = some (some dt, .by pt)) (hs : sd[s]? = some (none, .by fun _ _ => True)) (hts : ((dl[s]?).getD []).contains t = true) (hst' : s ≠ t) (hsm : s < m) (hrel : VS.monoR rel sd) (hq : ∀ u W W', Below W.heap.size W W' → q u W → q u W') (hbr : ∀ W W', Below w.heap.size w W → rel W W' → Below w.heap.size w W')
    (hst : DStepsR P (ops.take m).toArray N w sd dl f s t dt pt q rel 0 (ops.take m))
    (hend : ∀ W, Below w.heap.size w W → ∀ ut, pt ut W → q ut W → DEnd (fun f W => WL P ops.toArray Q N (ops.drop m) f W) W (sd.set t (some dt, .is ut)) f) : WC P N (.region id ops.toArray true) Q f w := fun a ha => by
  obtain ⟨pre, hpre⟩ : ∃ pre, pre = ops.take m := ⟨_, rfl⟩
  obtain ⟨suf, hsuf⟩ : ∃ suf, suf = ops.drop m := ⟨_, rfl⟩
  have hops : pre ++ suf = ops := by rw [hpre, hsuf]; exact List.take_append_drop m ops
  rw [← hpre] at hbp htl hdl hds hst
  rw [← hsuf] at hend
  clear hpre hsuf
  subst hops
  have hlen : dl.length = sd.length := by rw [← hdl, List.length_map, ← List.length_map (f := (·.dst)), hds, List.length_map]
  have hpl : pre.length = dl.length := by rw [← hdl, List.length_map]
  have htlt : t < sd.length := (List.getElem?_eq_some_iff.1 ht).1
  have hslt : s < sd.length := (List.getElem?_eq_some_iff.1 hs).1
  refine wp_region_any hm ?_
  have hrep : Array.replicate (pre ++ suf).toArray.size false = Array.replicate pre.toArray.size false ++ Array.replicate suf.length false := by
    simp [Array.replicate_append_replicate]
  rw [hrep]
  have hsz : (pre ++ suf).toArray.size = pre.toArray.size + suf.length := by simp
  rw [hsz]
  refine pre_tail (pre := pre.toArray) (suf := suf) hb hbp (by simp) (by simpa using htl) pre.toArray.size _ (by simp) (fun j hj => by simp [Array.getD_eq_getD_getElem?, Array.getElem?_replicate] at hj; split at hj <;> simp_all) a w.drew ?_
  have hda : ∀ j, depsAt .any pre.toArray j = (dl[j]?).getD [] := by
    intro j
    subst hdl
    simp only [depsAt, List.getElem?_map, List.getElem?_toArray]
  have hF0 : ∀ j, (Array.replicate pre.toArray.size false).getD j false = true → False := fun j hj => by simp [Array.getD_eq_getD_getElem?, Array.getElem?_replicate] at hj; split at hj <;> simp_all
  have hmemt : t ∈ (dl[s]?).getD [] := by simpa using hts
  refine wpAny_facts hbp a (fun _ W => Below w.heap.size w W) (fun j g W => okAt sd j (g j) W ∧ (j = s → q (g t) W)) (fun i _ W W' => if i = s then rel W W' else Below W.heap.size W W') ?_ ?_ ?_ pre.toArray.size _ (fun _ => undef) a w.drew (by simp) (by
      have := List.countP_le_length (p := fun b => !b) (l := (Array.replicate pre.toArray.size false).toList)
      simpa using this) (fun j hj => (hF0 j hj).elim) (Agrees.start fun j hj => hF0 j hj) (below_draws (Below.refl _ _) 1) (fun j hj => (hF0 j hj).elim)
  · intro i g W W' j g' hB hne ⟨h, hqj⟩
    by_cases hi : i = s
    · rw [if_pos hi] at hB
      refine ⟨?_, fun hj => absurd (hj.trans hi.symm) hne⟩
      unfold okAt at h ⊢
      cases hsj : sd[j]? with
      | none => trivial
      | some p =>
        obtain ⟨d, s'⟩ := p
        rw [hsj] at h
        cases s' with
        | is v => exact h
        | «by» p => exact monoR_at hrel hsj _ W W' hB h
    · rw [if_neg hi] at hB
      refine ⟨?_, fun hj => hq _ _ _ hB (hqj hj)⟩
      unfold okAt at h ⊢
      cases hsj : sd[j]? with
      | none => trivial
      | some p =>
        obtain ⟨d, s'⟩ := p
        rw [hsj] at h
        cases s' with
        | is v => exact h
        | «by» p => exact mono_at hmono hsj _ W W' hB h
  · intro i o hoi L g W _ _ hG hd
    have key : ∀ (l : List Oper) (k : Nat), DStepsR P pre.toArray N w sd dl f s t dt pt q rel k l → ∀ j o, l[j]? = some o →
        (if k + j = s then ∀ W, Below w.heap.size w W → ∀ ut, pt ut W → DStep P pre.toArray o N W (sd.set t (some dt, .is ut)) (fun v W' => rel W W' ∧ q ut W') ((dl[k + j]?).getD []) f
          else ∀ W, Below w.heap.size w W → DStep P pre.toArray o N W sd (fun v W' => Below W.heap.size W W' ∧ okAt sd (k + j) v W') ((dl[k + j]?).getD []) f) := by
      intro l
      induction l with
      | nil => intro k _ j o h; simp at h
      | cons x l ih =>
        intro k hs j o h
        cases j with
        | zero =>
          simp only [List.getElem?_cons_zero, Option.some.injEq] at h
          subst h
          exact hs.1
        | succ j =>
          have := ih (k + 1) hs.2 j o (by simpa using h)
          rw [show k + (j + 1) = k + 1 + j by omega]
          exact this
    have hk := key pre 0 hst i o (by simpa using hoi)
    rw [Nat.zero_add] at hk
    have hdo : depsOf .any o = (dl[i]?).getD [] := by rw [← hda i, depsAt_eq hoi]
    rw [hdo] at hd ⊢
    rw [putL_eq (ds := sd.map (·.1)) (by simpa using hds)]
    by_cases hi : i = s
    · rw [if_pos hi] at hk
      subst hi
      have hpt : pt (g t) W := by
        have := (hd t hmemt).1
        rw [restr_self] at this
        unfold okAt at this
        rw [ht] at this
        exact this
      obtain ⟨ut, hut⟩ : ∃ ut, ut = g t := ⟨_, rfl⟩
      have hH : HypL (fun j g w => okAt (sd.set t (some dt, .is ut)) j (g j) w) dl g W ((dl[i]?).getD []) := HypL.of _ fun j hj => by
        have h1 := (hd j hj).1
        rw [hda j] at h1
        show okAt _ j (restr g (j :: _) j) W
        rw [restr_self] at h1 ⊢
        by_cases e : j = t
        · subst e
          rw [← hut]
          exact okAt_hit htlt W
        · rw [okAt_set e]
          exact h1
      have hfin := DStep.to (inN_set ht hN) _ f a (hk W hG ut (by rw [hut]; exact hpt)) ha hH
      rw [map_set ht] at hfin
      refine hfin.mono fun v W' h => ⟨by rw [if_pos rfl]; exact h.1, hbr _ _ hG h.1, ?_, fun _ => ?_⟩
      · unfold okAt
        rw [hs]
        trivial
      · have e : restr (upd g i v) (i :: (dl[i]?).getD []) t = g t := by
          unfold restr upd
          rw [if_pos (by simp [hmemt]), if_neg (fun h => hst' h.symm)]
        rw [e, ← hut]
        exact h.2
    · rw [if_neg hi] at hk
      have hH : HypL (fun j g w => okAt sd j (g j) w) dl g W ((dl[i]?).getD []) := HypL.of _ fun j hj => by have := (hd j hj).1; rwa [hda j] at this
      refine (DStep.to hN _ f a (hk W hG) ha hH).mono fun v W' h => ⟨by rw [if_neg hi]; exact h.1, hG.trans (h.1.mono hG.size), ?_, fun e => absurd e hi⟩
      simp only [restr_self]
      rw [show upd g i v i = v by simp [upd]]
      exact h.2
  · intro L g W hL hG hd
    rw [putL_eq (ds := sd.map (·.1)) (by simpa using hds)]
    have hsize : pre.toArray.size = sd.length := by simp; omega
    have hpt : pt (g t) W := by
      have := (hd t (by omega)).1
      rw [restr_self] at this
      unfold okAt at this
      rw [ht] at this
      exact this
    have hqt : q (g t) W := by
      have := (hd s (by omega)).2 rfl
      have e : restr g (s :: depsAt .any pre.toArray s) t = g t := by
        rw [hda s]
        unfold restr
        rw [if_pos (by simp [hmemt])]
      rwa [e] at this
    obtain ⟨ut, hut⟩ : ∃ ut, ut = g t := ⟨_, rfl⟩
    have hH : HypL (fun j g w => okAt (sd.set t (some dt, .is ut)) j (g j) w) dl g W (List.range' 0 sd.length) := HypL.of _ fun j hj => by
      have hj' : j < pre.toArray.size := by
        simp [List.mem_range'] at hj
        simp
        omega
      have h1 := (hd j hj').1
      rw [hda j] at h1
      show okAt _ j (restr g (j :: _) j) W
      rw [restr_self] at h1 ⊢
      by_cases e : j = t
      · subst e
        rw [← hut]
        exact okAt_hit htlt W
      · rw [okAt_set e]
        exact h1
    have hfin := DEnd.to (Q := fun a W => wpList P (pre ++ suf).toArray Q suf a W) (inN_set (s' := .is ut) ht hN) (fun f h a ha => h a ha) (sd.set t (some dt, .is ut)) 0 f a (by simp) (hend W hG ut (by rw [hut]; exact hpt) (by rw [hut]; exact hqt)) ha (by rw [List.length_set]; exact hH)
    rw [List.length_set, map_set ht] at hfin
    show wpOps P (pre ++ suf).toArray Q (List.range' pre.toArray.size suf.length) _ _
    rw [wpOps_eq_wpList suf pre.toArray.size (fun j => by simp [List.getElem?_append_right])]
    rw [List.range_eq_range', hsize]
    exact hfin
end
/-- A pointer to what lies behind the world of the base. -/
def PtB (base : Nat) (L : List Nat) (w : World) (u : Value) (cs : List Value) : Prop := 0 < cs.length ∧ ∃ X o, u = .pointer (some ⟨X, o, none⟩) ∧ X < base ∧ X ∉ L ∧ w.rangeAt X o cs
theorem PtB.ptr {base : Nat} {L : List Nat} {w : World} {u : Value} {cs : List Value} (h : PtB base L w u cs) : PtR L w u cs := by
  obtain ⟨h0, X, o, h1, _, h2, h3⟩ := h
  exact ⟨h0, X, o, h1, h2, h3⟩
theorem PtB.below {base : Nat} {L : List Nat} {w w' : World} {u : Value} {cs : List Value} (h : PtB base L w u cs) (hb : Below w.heap.size w w') : PtB base L w' u cs := by
  obtain ⟨h0, X, o, h1, hx, h2, h3⟩ := h
  exact ⟨h0, X, o, h1, hx, h2, range_agree h3 (Agree.of_below (L := L) hb) h2⟩
/-- A variable that is newly made, of a type, whatever it holds. -/
def NewT (base t n : Nat) (u : Value) (w : World) : Prop := ∃ B cs, u = .pointer (some ⟨B, 0, none⟩) ∧ base ≤ B ∧ BlkT w B t cs ∧ cs.length = n
theorem NewT.below {base t n : Nat} {u : Value} {w w' : World} (h : NewT base t n u w) (hb : Below w.heap.size w w') : NewT base t n u w' := by
  obtain ⟨B, cs, h1, h2, h3, h4⟩ := h
  exact ⟨B, cs, h1, h2, by unfold BlkT; rw [hb.block B h3.blk.lt]; exact h3, h4⟩
theorem NewP.newT {base t n : Nat} {cs : List Value} {u : Value} {w : World} (h : NewP base t cs u w) (hn : cs.length = n) : NewT base t n u w := by
  obtain ⟨B, h1, h2, h3⟩ := h
  exact ⟨B, cs, h1, h2, h3, hn⟩
/-- A write to a new variable of this type. -/
def WrT (base t n : Nat) (w w' : World) : Prop := ∃ C cs cs', base ≤ C ∧ BlkT w C t cs ∧ BlkT w' C t cs' ∧ cs.length = n ∧ cs'.length = n ∧ Only C w w'
theorem WrT.below {base t n : Nat} {w0 w w' : World} (h : WrT base t n w w') (hb : Below base w0 w) : Below base w0 w' := by
  obtain ⟨C, cs, cs', h1, h2, h3, _, h4, h5⟩ := h
  exact h5.below hb h1
theorem NewT.wr {base t n : Nat} {u : Value} {w w' : World} (h : NewT base t n u w) (hw : WrT base t n w w') : NewT base t n u w' := by
  obtain ⟨B, cs, h1, h2, h3, h4⟩ := h
  obtain ⟨C, c1, c2, k1, k2, k3, k0, k4, k5⟩ := hw
  by_cases e : B = C
  · subst e
    exact ⟨B, c2, h1, h2, k3, k4⟩
  · exact ⟨B, cs, h1, h2, by unfold BlkT; rw [k5.block B e]; exact h3, h4⟩
theorem NewP.wr {base t t' n : Nat} {cs : List Value} {u : Value} {w w' : World} (h : NewP base t' cs u w) (hw : WrT base t n w w') (hn : (t' == t) = false) : NewP base t' cs u w' := by
  obtain ⟨B, h1, h2, h3⟩ := h
  obtain ⟨C, c1, c2, k1, k2, k3, k0, k4, k5⟩ := hw
  exact ⟨B, h1, h2, by unfold BlkT; rw [k5.block B (h3.ne k2 hn)]; exact h3⟩
theorem PtB.wr {base t n : Nat} {L : List Nat} {w w' : World} {u : Value} {cs : List Value} (h : PtB base L w u cs) (hw : WrT base t n w w') : PtB base L w' u cs := by
  obtain ⟨h0, X, o, h1, hx, h2, h3⟩ := h
  obtain ⟨C, c1, c2, k1, k2, k3, k0, k4, k5⟩ := hw
  exact ⟨h0, X, o, h1, hx, h2, range_agree h3 (Agree.of_only (L := [C]) k5 (.head _)) (by simp; omega)⟩
/-- Rows that are longer than a whole block do not lie in it. -/
theorem RdF.offB {s : Nat} {L : List Nat} {w : World} {v : Value} {rs : List (List Value)} {B : Nat} {cs : List Value} (h : RdF s L w v rs) (hk : Blk w B cs) (hl : cs.length < s) : RdF s (B :: L) w v rs := by
  obtain ⟨h0, hr, a, cap, h1, h2, h3, h4, h5⟩ := h
  refine ⟨h0, hr, a, cap, h1, h2, h3, h4, fun hn => ?_⟩
  obtain ⟨X, o, e, hX, hc⟩ := h5 hn
  refine ⟨X, o, e, ?_, hc⟩
  have hlen : s ≤ rs.flatten.length := by
    rw [flat_len hr]
    exact Nat.le_mul_of_pos_left s (List.length_pos_iff.2 hn)
  have hne : X ≠ B := fun e => by
    subst e
    obtain ⟨t, ht⟩ := hk
    have := hc (s - 1) _ (List.getElem?_eq_getElem (by omega))
    simp [World.cell?, ht] at this
    obtain ⟨h', _⟩ := List.getElem?_eq_some_iff.1 this
    omega
  simp [hne, hX]
theorem RdF.wr {s base t n : Nat} {L : List Nat} {w w' : World} {v : Value} {rs : List (List Value)} (h : RdF s L w v rs) (hw : WrT base t n w w') (hn : n < s) : RdF s L w' v rs := by
  obtain ⟨C, c1, c2, k1, k2, k3, k0, k4, k5⟩ := hw
  exact ((h.offB k2.blk (by omega)).only k5 (.head _)).less (fun x hx => .tail _ hx)
section
variable {P : Program} {ops : Array Oper} {o : Oper} {N : Nat} {f : Fl} {w : World}
theorem dx_fldB {t : TypeId} {x : Operand} {k off base : Nat} {L : List Nat} {u : Value} {cs cs' : List Value} (n : Nat) (ho : o.op = .fieldAddr t x k) (hf : fldB P t k off = true) (hx : ev f x = some u) (hp : PtB base L w u cs) (hr : (cs.drop off).take n = cs') (hn : 0 < cs'.length) (hw : wantF ops o f = some true := by rfl) : DR P ops o N f w fun u' W => w = W ∧ PtB base L w u' cs' := fun a ha => by
  obtain ⟨_, X, o0, rfl, hb, hX, hc⟩ := hp
  have hx := ha.ev hx
  refine Does.pure (wantF_of ha hw) _ (by unfold execOp; simp only [ho, hx, Sem.run_bind, run_fldB hf, Result.andThen_ok]; rfl) ⟨rfl, hn, X, _, rfl, hb, hX, ?_⟩
  have := range_part hc off n
  rwa [hr] at this
theorem dx_idxB {t s : Nat} {L : List Nat} {w0 : World} {x y : Operand} {v : Value} {rs : List (List Value)} {K : IntKind} {i : Int} {r : List Value} (k : Nat) (ho : o.op = .indexAddr t x y) (ht : sliceB P t s = true) (hx : ev f x = some v) (hy : ev f y = some (.int K i)) (hr : RdF s L w0 v rs) (hd : Below w0.heap.size w0 w) (hk : i = (k : Int)) (hi : rs[k]? = some r) (hw : wantF ops o f = some true := by rfl) :
    DR P ops o N f w fun u W => w = W ∧ PtB w0.heap.size L w u r := fun a ha => by
  have hr' := hr.below hd
  obtain ⟨h0, hl, ad, cap, rfl, h2, h3, h4, h5⟩ := hr'
  obtain ⟨e, hu, hs⟩ := of_sliceB ht
  have hx := ha.ev hx
  have hy := ha.ev hy
  subst hk
  have hlt := (List.getElem?_eq_some_iff.1 hi).1
  have hne : rs ≠ [] := by intro e; subst e; simp at hlt
  obtain ⟨X, o0, rfl, hX, hc⟩ := h5 hne
  have hrun := run_idxS (w := w) (n := rs.length) (c := cap) hu hs X o0 K (k : Int) (by omega) (by omega)
  refine Does.pure (wantF_of ha hw) (.pointer (some ⟨X, o0 + k * s, none⟩)) (by unfold execOp; simp only [ho, hx, hy, Sem.run_bind, hrun, Result.andThen_ok]; rfl) ⟨rfl, by rw [hl r (List.mem_of_getElem? hi)]; exact h0, X, _, rfl, rdf_lt hr rfl hne, hX, ?_⟩
  have := range_part hc (k * s) s
  rw [flat_row hl hi] at this
  simpa using this
/-- A store of the whole of a new variable. -/
theorem dx_storeT {t t' base n : Nat} {x y : Operand} {u V : Value} {vs : List Value} (ho : o.op = .store t x y) (ht : sizeB P t n = true) (hx : ev f x = some u) (hp : NewT base t' n u w) (hy : ev f y = some V) (hv : V.cells.toList = vs) (h1 : ∀ v ∈ vs, v.oneCell' = true) (hn : vs.length = n) (hw : wantF ops o f = some true := by rfl) : DR P ops o N f w fun _ W => WrT base t' n w W ∧ NewP base t' vs u W := fun a ha => by
  obtain ⟨B, cs, rfl, hB, hb, hc⟩ := hp
  obtain ⟨i, hi, hs⟩ := of_sizeB ht
  have hx := ha.ev hx
  have hy := ha.ev hy
  exact Does.of_wp (wantF_of ha hw) fun K hK => by
    have hst := run_storeCells_at P B 0 t' vs 0 _ w hb (by simp; omega) h1
    simp only [Nat.add_zero] at hst
    have hcs : (cs.toArray.toList.take 0 ++ vs ++ cs.toArray.toList.drop (0 + vs.length)) = vs := by
      rw [List.drop_eq_nil_of_le (by simp; omega)]
      simp
    rw [hcs] at hst
    have hsz : V.cells.size = i.size := by rw [← Array.length_toList, hv, hn, hs]
    unfold Oper.wp execOp
    simp only [ho, hx, hy, Instr.storeAt, Instr.sureAddr, storeVar, sizeOf, typeInfo, Sem.run_bind, Sem.run_pure, Result.andThen_ok, run_program, hi, hsz, hv, ne_eq, not_true_eq_false, if_false, hst]
    have e : (w.setRow B vs.toArray).heap[B]? = some (.cells vs.toArray t' (0, 0)) := setRow_heap w B _ _ t' _ hb
    exact hK _ _ ⟨⟨B, cs, vs, hB, hb, e, hc, hn, only_setRow w B _⟩, B, rfl, hB, e⟩
end
end Go.Proofs.YtohnicmacmkapaaDoor
namespace Go.Proofs.YtohnicmacmkapaaDoor
open Go.RowKit
set_option linter.unusedVariables false
set_option linter.unusedSimpArgs false
/-- A block of one's own as rows, all that there is room for. -/
def RwB (s : Nat) (w : World) (B : Nat) (R : List (List Value)) : Prop := 0 < s ∧ (∀ r ∈ R, r.length = s) ∧ R.length ≤ maxLen ∧ Blk w B R.flatten
theorem RwB.lt {s : Nat} {w : World} {B : Nat} {R : List (List Value)} (h : RwB s w B R) : B < w.heap.size := h.2.2.2.lt
theorem RwB.below {s : Nat} {w w' : World} {B : Nat} {R : List (List Value)} (h : RwB s w B R) (hb : Below w.heap.size w w') : RwB s w' B R := ⟨h.1, h.2.1, h.2.2.1, h.2.2.2.below hb⟩
theorem RwB.other {s : Nat} {w w' : World} {B C : Nat} {R : List (List Value)} (h : RwB s w B R) (ho : Only C w w') (hn : B ≠ C) : RwB s w' B R := ⟨h.1, h.2.1, h.2.2.1, h.2.2.2.other ho hn⟩
theorem rows_of {s : Nat} : ∀ (n : Nat) (l : List Value), l.length = n * s → ∃ rows : List (List Value), rows.length = n ∧ (∀ r ∈ rows, r.length = s) ∧ rows.flatten = l
  | 0, l, h => ⟨[], rfl, fun r hr => (by cases hr), (by rw [Nat.zero_mul] at h; rw [List.length_eq_zero_iff.1 h]; rfl)⟩
  | n + 1, l, h => by
    rw [Nat.succ_mul] at h
    obtain ⟨rows, h1, h2, h3⟩ := rows_of (s := s) n (l.drop s) (by rw [List.length_drop]; omega)
    refine ⟨l.take s :: rows, by simp [h1], fun r hr => ?_, by rw [List.flatten_cons, h3, List.take_append_drop]⟩
    rcases List.mem_cons.1 hr with rfl | hr
    · rw [List.length_take]; omega
    · exact h2 r hr
theorem OwS.open {s : Nat} {w : World} {v : Value} {rs : List (List Value)} {B : Nat} (h : OwS s w v rs B) : ∃ sp, v = .slice (some ⟨B, 0, none⟩) rs.length (rs ++ sp).length ∧ RwB s w B (rs ++ sp) := by
  obtain ⟨h0, hr, cap, sp, rfl, h2, h3, h4, h5⟩ := h
  obtain ⟨rows, k1, k2, rfl⟩ := rows_of (cap - rs.length) sp h4
  have e : (rs ++ rows).length = cap := by rw [List.length_append, k1]; omega
  refine ⟨rows, by rw [e], h0, fun r hr' => ?_, by rw [e]; exact h3, by rw [List.flatten_append]; exact h5⟩
  rcases List.mem_append.1 hr' with h | h
  · exact hr r h
  · exact k2 r h
theorem RwB.own {s : Nat} {w : World} {B : Nat} {rs sp : List (List Value)} (h : RwB s w B (rs ++ sp)) : OwS s w (.slice (some ⟨B, 0, none⟩) rs.length (rs ++ sp).length) rs B := by
  obtain ⟨h0, hr, hm, hb⟩ := h
  have hsp : ∀ r ∈ sp, r.length = s := fun r hr' => hr r (List.mem_append.2 (.inr hr'))
  refine ⟨h0, fun r hr' => hr r (List.mem_append.2 (.inl hr')), _, sp.flatten, rfl, by simp, hm, ?_, by rw [← List.flatten_append]; exact hb⟩
  rw [flat_len hsp, List.length_append, Nat.add_sub_cancel_left]
/-- Where a part begins: a part with no room begins where the whole does. -/
def offV (c l o0 s : Nat) : Nat := if c = l then o0 else o0 + l * s
theorem offV_eq {c l s B o0 : Nat} : (if c = l then some (⟨B, o0, none⟩ : Addr) else some (if l * s = 0 then ⟨B, o0, none⟩ else ⟨B, o0 + l * s, none⟩)) = some ⟨B, offV c l o0 s, none⟩ := by
  unfold offV
  split
  · rfl
  · split
    · rename_i h; rw [h]; rfl
    · rfl
theorem offV_in {c l o0 s n : Nat} (hn : n ≠ 0) (h : l + n ≤ c) : offV c l o0 s = o0 + l * s := by
  unfold offV
  rw [if_neg (by omega)]
/-- What a part of it reads. -/
theorem RwB.part {s : Nat} {w : World} {B : Nat} {R : List (List Value)} (h : RwB s w B R) {L : List Nat} (hB : B ∉ L) {lo n c o1 : Nat} (ho : n ≠ 0 → o1 = lo * s) (hn : n ≤ c) (hc : lo + c ≤ R.length) : RdF s L w (.slice (some ⟨B, o1, none⟩) n c) ((R.drop lo).take n) := by
  obtain ⟨h0, hr, hm, hb⟩ := h
  have hl : ((R.drop lo).take n).length = n := by rw [List.length_take, List.length_drop]; omega
  refine ⟨h0, fun r hr' => hr r (List.mem_of_mem_drop (List.mem_of_mem_take hr')), _, c, by rw [hl], by rw [hl]; exact hn, by omega, fun h => (by cases h), fun hne => ⟨B, o1, rfl, hB, ?_⟩⟩
  rw [ho (fun e => hne (by rw [e, List.take_zero]))]
  have := range_part hb.range (lo * s) (n * s)
  rw [flat_drop lo hr, flat_take n (fun r hr' => hr r (List.mem_of_mem_drop hr')), Nat.zero_add] at this
  exact this
section
variable {P : Program} {ops : Array Oper} {o : Oper} {N : Nat} {f : Fl} {w : World}
/-- x[l:], x[:h], x[l:h], x[l:h:m] of a slice that isn't nil. -/
theorem dx_slL {t s B o0 n c : Nat} {x y : Operand} {K : IntKind} (l : Nat) {i : Int} (ho : o.op = .slice t x (some y) none none) (ht : sliceB P t s = true) (hx : ev f x = some (.slice (some ⟨B, o0, none⟩) n c)) (hy : ev f y = some (.int K i)) (hi : i = (l : Int)) (hl : l ≤ n) (hn : n ≤ c) (hw : wantF ops o f = some true := by rfl) :
    DV P ops o N f w (.slice (some ⟨B, offV c l o0 s, none⟩) (n - l) (c - l)) := fun a ha => by
  subst hi
  obtain ⟨e, hu, hs⟩ := of_sliceB ht
  have hx := ha.ev hx
  have hy := ha.ev hy
  cases hi : P.info? e with
  | none => rw [hi] at hs; cases hs
  | some q =>
    have hq : q.size = s := by simpa [hi] using hs
    refine Does.pure (wantF_of ha hw) _ ?_ ⟨rfl, rfl⟩
    have h1 : ((l : Int) ≤ (n : Int)) := by omega
    have h2 : ((n : Int) ≤ (c : Int)) := by omega
    have h3 : (0 : Int) ≤ (l : Int) := by omega
    unfold execOp
    simp only [ho, Option.map_none, Option.map_some, hx, hy, Instr.sliceAt, Sem.run_bind, run_underlying hu, Result.andThen_ok, Instr.slice, Instr.sliceBounds, Instr.sliceBound, asIntOf, Sem.run_pure, sizeOf, typeInfo, run_program, hi]
    simp [h1, h2, h3, hq, addr_at, Addr.add, hl]
    exact offV_eq
theorem dx_slH {t s B o0 n c : Nat} {x y : Operand} {K : IntKind} (h : Nat) {i : Int} (ho : o.op = .slice t x none (some y) none) (ht : sliceB P t s = true) (hx : ev f x = some (.slice (some ⟨B, o0, none⟩) n c)) (hy : ev f y = some (.int K i)) (hi : i = (h : Int)) (hl : h ≤ c) (hw : wantF ops o f = some true := by rfl) :
    DV P ops o N f w (.slice (some ⟨B, o0, none⟩) h c) := fun a ha => by
  subst hi
  obtain ⟨e, hu, hs⟩ := of_sliceB ht
  have hx := ha.ev hx
  have hy := ha.ev hy
  cases hi : P.info? e with
  | none => rw [hi] at hs; cases hs
  | some q =>
    have hq : q.size = s := by simpa [hi] using hs
    refine Does.pure (wantF_of ha hw) _ ?_ ⟨rfl, rfl⟩
    have h1 : ((h : Int) ≤ (c : Int)) := by omega
    have h3 : (0 : Int) ≤ (h : Int) := by omega
    unfold execOp
    simp only [ho, Option.map_none, Option.map_some, hx, hy, Instr.sliceAt, Sem.run_bind, run_underlying hu, Result.andThen_ok, Instr.slice, Instr.sliceBounds, Instr.sliceBound, asIntOf, Sem.run_pure, sizeOf, typeInfo, run_program, hi]
    simp [h1, h3, hq, addr_at, Addr.add]
theorem dx_slLH {t s B o0 n c : Nat} {x y z : Operand} {K K' : IntKind} (l h : Nat) {i j : Int} (ho : o.op = .slice t x (some y) (some z) none) (ht : sliceB P t s = true) (hx : ev f x = some (.slice (some ⟨B, o0, none⟩) n c)) (hy : ev f y = some (.int K i)) (hz : ev f z = some (.int K' j)) (hi : i = (l : Int)) (hj : j = (h : Int)) (hl : l ≤ h) (hc : h ≤ c) (hw : wantF ops o f = some true := by rfl) :
    DV P ops o N f w (.slice (some ⟨B, offV c l o0 s, none⟩) (h - l) (c - l)) := fun a ha => by
  subst hi hj
  obtain ⟨e, hu, hs⟩ := of_sliceB ht
  have hx := ha.ev hx
  have hy := ha.ev hy
  have hz := ha.ev hz
  cases hi : P.info? e with
  | none => rw [hi] at hs; cases hs
  | some q =>
    have hq : q.size = s := by simpa [hi] using hs
    refine Does.pure (wantF_of ha hw) _ ?_ ⟨rfl, rfl⟩
    have h1 : ((l : Int) ≤ (h : Int)) := by omega
    have h2 : ((h : Int) ≤ (c : Int)) := by omega
    have h3 : (0 : Int) ≤ (l : Int) := by omega
    have h4 : (0 : Int) ≤ (h : Int) := by omega
    unfold execOp
    simp only [ho, Option.map_none, Option.map_some, hx, hy, hz, Instr.sliceAt, Sem.run_bind, run_underlying hu, Result.andThen_ok, Instr.slice, Instr.sliceBounds, Instr.sliceBound, asIntOf, Sem.run_pure, sizeOf, typeInfo, run_program, hi]
    simp [h1, h2, h3, h4, hq, addr_at, Addr.add, hl, hc]
    exact offV_eq
theorem dx_slLHM {t s B o0 n c : Nat} {x y z u : Operand} {K K' K2 : IntKind} (l h m : Nat) {i j k : Int} (ho : o.op = .slice t x (some y) (some z) (some u)) (ht : sliceB P t s = true) (hx : ev f x = some (.slice (some ⟨B, o0, none⟩) n c)) (hy : ev f y = some (.int K i)) (hz : ev f z = some (.int K' j)) (hu' : ev f u = some (.int K2 k)) (hi : i = (l : Int)) (hj : j = (h : Int)) (hk : k = (m : Int)) (hl : l ≤ h) (hm : h ≤ m) (hc : m ≤ c) (hw : wantF ops o f = some true := by rfl) :
    DV P ops o N f w (.slice (some ⟨B, offV m l o0 s, none⟩) (h - l) (m - l)) := fun a ha => by
  subst hi hj hk
  obtain ⟨e, hu, hs⟩ := of_sliceB ht
  have hx := ha.ev hx
  have hy := ha.ev hy
  have hz := ha.ev hz
  have hu' := ha.ev hu'
  cases hi : P.info? e with
  | none => rw [hi] at hs; cases hs
  | some q =>
    have hq : q.size = s := by simpa [hi] using hs
    refine Does.pure (wantF_of ha hw) _ ?_ ⟨rfl, rfl⟩
    have h1 : ((l : Int) ≤ (h : Int)) := by omega
    have h2 : ((h : Int) ≤ (m : Int)) := by omega
    have h3 : (0 : Int) ≤ (l : Int) := by omega
    have h4 : (0 : Int) ≤ (h : Int) := by omega
    have h5 : ((m : Int) ≤ (c : Int)) := by omega
    have h6 : (0 : Int) ≤ (m : Int) := by omega
    unfold execOp
    simp only [ho, Option.map_none, Option.map_some, hx, hy, hz, hu', Instr.sliceAt, Sem.run_bind, run_underlying hu, Result.andThen_ok, Instr.slice, Instr.sliceBounds, Instr.sliceBound, asIntOf, Sem.run_pure, sizeOf, typeInfo, run_program, hi]
    simp [h1, h2, h3, h4, h5, h6, hq, addr_at, Addr.add, hl, hm, hc]
    exact offV_eq
/-- An append where there is room. -/
theorem dx_apV {t s bytes B i : Nat} {x y : Operand} {v2 : Value} {R news : List (List Value)} {L : List Nat} (ho : o.op = .call { callee := .builtin .append, args := #[x, y], argTypes := #[t, t] }) (ht : apB P t s bytes = true) (hx : ev f x = some (.slice (some ⟨B, 0, none⟩) i R.length)) (hy : ev f y = some v2)
    (hR : RwB s w B R) (h2 : RdF s L w v2 news) (h1 : ∀ r ∈ news, ∀ u ∈ r, u.oneCell' = true) {m : Nat} (hm' : news.length = m) (hroom : i + m ≤ R.length) (hw : wantF ops o f = some true := by rfl) :
    DR P ops o N f w fun u W => u = .slice (some ⟨B, 0, none⟩) (i + m) R.length ∧ RwB s W B (R.take i ++ (news ++ R.drop (i + m))) ∧ Only B w W := fun a ha => by
  subst hm'
  obtain ⟨e, q, Z, hu, hi, hz, rfl, rfl, hzs⟩ := of_apB ht
  have hx := ha.ev hx
  have hy := ha.ev hy
  obtain ⟨h0, hr, hm, tt, hb⟩ := hR
  obtain ⟨_, hl2, a2, cap2, rfl, hd1, hd2, hd3, hd4⟩ := h2
  refine Does.of_wp (wantF_of ha hw) fun K hK => ?_
  by_cases hn : news = []
  · subst hn
    have hr0 : (Builtin.append_ #[t, t] o.type #[.slice (some ⟨B, 0, none⟩) i R.length, .slice a2 0 cap2]).run P w = .ok (.slice (some ⟨B, 0, none⟩) i R.length) w := by
      have hle : i ≤ R.length := by simpa using hroom
      cases a2 with
      | none => simp [Builtin.append_, run_underlying hu, sizeOf, typeInfo, hi, Builtin.lenOf, hle, Builtin.firstCells, storeCells]
      | some a2 => simp [Builtin.append_, run_underlying hu, sizeOf, typeInfo, hi, Builtin.lenOf, hle, Builtin.firstCells, loadCells, loadCellsFrom, storeCells]
    unfold Oper.wp execOp
    simp only [List.length_nil] at hy
    simp only [ho, resolve, invoke, builtin, Sem.run_bind, Sem.run_pure, Result.andThen_ok, List.map_toArray, List.map_cons, List.map_nil, hx, hy, hr0]
    refine hK _ _ ⟨rfl, ⟨h0, by simpa using hr, by simpa using hm, tt, by simpa using hb⟩, ⟨rfl, rfl, rfl, rfl, fun _ _ => rfl⟩⟩
  · obtain ⟨X, o0, rfl, hX, hc⟩ := hd4 hn
    have hnews : ∀ j u, news.flatten[j]? = some u → w.cell? ((⟨X, o0, none⟩ : Addr).add j) = some u := fun j u hj => by rw [addr_at]; exact hc j u hj
    have hflat : news.flatten.length = news.length * q.size := flat_len hl2
    have h1' : ∀ u ∈ news.flatten, u.oneCell' = true := fun u hu => by
      obtain ⟨r, hr, hur⟩ := List.mem_flatten.1 hu
      exact h1 r hr u hur
    have hfit : i * q.size + news.flatten.length ≤ R.flatten.toArray.size := by
      rw [List.size_toArray, flat_len hr, hflat, ← Nat.add_mul]
      exact Nat.mul_le_mul_right _ hroom
    have hrun := run_ap_room (P := P) (w := w) (t := t) (ty := o.type) hu hi B i R.length _ hb ⟨X, o0, none⟩ news.length cap2 news.flatten hflat hnews h1' hroom hfit
    have hcs : R.flatten.toArray.toList.take (i * q.size) ++ news.flatten ++ R.flatten.toArray.toList.drop (i * q.size + news.flatten.length) = (R.take i ++ (news ++ R.drop (i + news.length))).flatten := by
      rw [hflat, ← Nat.add_mul, flat_take i hr, flat_drop (i + news.length) hr]
      simp
    rw [hcs] at hrun
    unfold Oper.wp execOp
    simp only [ho, resolve, invoke, builtin, Sem.run_bind, Sem.run_pure, Result.andThen_ok, List.map_toArray, List.map_cons, List.map_nil, hx, hy, hrun]
    refine hK _ _ ⟨rfl, ⟨h0, fun r hr' => ?_, ?_, tt, setRow_heap w B _ _ tt _ hb⟩, only_setRow w B _⟩
    · rcases List.mem_append.1 hr' with h | h
      · exact hr r (List.mem_of_mem_take h)
      · rcases List.mem_append.1 h with h | h
        · exact hl2 r h
        · exact hr r (List.mem_of_mem_drop h)
    · rw [List.length_append, List.length_append, List.length_take, List.length_drop]
      omega
/-- A type whose zero value has cells of one cell each. -/
def clB (P : Program) (t s : Nat) : Bool := match P.underlying t with
  | some (.slice e) => match P.info? e with
    | some i => i.size == s && (match i.zero with | some z => z.cells.size == s && z.cells.toList.all (·.oneCell') | none => false)
    | none => false
  | _ => false
theorem of_clB {t s : Nat} (h : clB P t s = true) : ∃ e i Z, P.underlying t = some (.slice e) ∧ P.info? e = some i ∧ i.zero = some Z ∧ i.size = s ∧ Z.cells.size = s ∧ ∀ u ∈ Z.cells.toList, u.oneCell' = true := by
  unfold clB at h
  split at h
  · rename_i e hu
    split at h
    · rename_i i hi
      simp only [Bool.and_eq_true, beq_iff_eq] at h
      obtain ⟨h1, h3⟩ := h
      split at h3
      · rename_i z hz
        simp only [Bool.and_eq_true, beq_iff_eq, List.all_eq_true] at h3
        exact ⟨e, i, z, hu, hi, hz, h1, h3.1, h3.2⟩
      · cases h3
    · cases h
  · cases h
theorem dx_clV {t s B lo n c o1 : Nat} {x : Operand} {R : List (List Value)} (ho : o.op = .call { callee := .builtin .clear, args := #[x], argTypes := #[t] }) (ht : clB P t s = true) (hx : ev f x = some (.slice (some ⟨B, o1, none⟩) n c)) (h1 : n ≠ 0 → o1 = lo * s) (hR : RwB s w B R) (hn : lo + n ≤ R.length) (hw : wantF ops o f = some true := by rfl) :
    DR P ops o N f w fun _ W => ∃ zs : List (List Value), zs.length = n ∧ RwB s W B (R.take lo ++ (zs ++ R.drop (lo + n))) ∧ Only B w W := fun a ha => by
  obtain ⟨e, q, Z, hu, hi, hz, rfl, hzs, hone⟩ := of_clB ht
  have hx := ha.ev hx
  obtain ⟨h0, hr, hm, tt, hb⟩ := hR
  refine Does.of_wp (wantF_of ha hw) fun K hK => ?_
  by_cases hn0 : n = 0
  · subst hn0
    have hrun : (Builtin.clear_ #[t] o.type #[.slice (some ⟨B, o1, none⟩) 0 c]).run P w = .ok (.tuple #[]) w := by simp [Builtin.clear_, run_underlying hu]
    unfold Oper.wp execOp
    simp only [ho, resolve, invoke, builtin, Sem.run_bind, Sem.run_pure, Result.andThen_ok, List.map_toArray, List.map_cons, List.map_nil, hx, hrun]
    exact hK _ _ ⟨[], rfl, ⟨h0, by simpa using hr, by simpa using hm, tt, by simpa using hb⟩, ⟨rfl, rfl, rfl, rfl, fun _ _ => rfl⟩⟩
  · obtain rfl := h1 hn0
    have hlen : (Builtin.zeroCells Z.cells n).toList.length = n * q.size := by rw [Array.length_toList, size_zeroCells, hzs]
    have hones : ∀ u ∈ (Builtin.zeroCells Z.cells n).toList, u.oneCell' = true := fun u hu => by
      unfold Builtin.zeroCells at hu
      simp only [Array.toList_map, List.mem_map] at hu
      obtain ⟨k, hk, rfl⟩ := hu
      refine hone _ ?_
      have hlt : k % Z.cells.size < Z.cells.size := Nat.mod_lt _ (by omega)
      rw [getElem!_pos Z.cells _ hlt]
      exact Array.getElem_mem_toList hlt
    obtain ⟨zs, z1, z2, z3⟩ := rows_of (s := q.size) n _ hlen
    have hst := run_storeCells_at P B (lo * q.size) tt (Builtin.zeroCells Z.cells n).toList 0 _ w hb (by rw [List.size_toArray, flat_len hr, hlen, Nat.add_zero, ← Nat.add_mul]; exact Nat.mul_le_mul_right _ hn) hones
    simp only [Nat.add_zero] at hst
    have hcs : R.flatten.toArray.toList.take (lo * q.size) ++ (Builtin.zeroCells Z.cells n).toList ++ R.flatten.toArray.toList.drop (lo * q.size + (Builtin.zeroCells Z.cells n).toList.length) = (R.take lo ++ (zs ++ R.drop (lo + n))).flatten := by
      rw [hlen, ← Nat.add_mul, flat_take lo hr, flat_drop (lo + n) hr, ← z3]
      simp
    rw [hcs] at hst
    have hrun : (Builtin.clear_ #[t] o.type #[.slice (some ⟨B, lo * q.size, none⟩) n c]).run P w = .ok (.tuple #[]) (w.setRow B (R.take lo ++ (zs ++ R.drop (lo + n))).flatten.toArray) := by
      cases n with
      | zero => exact absurd rfl hn0
      | succ n => simp [Builtin.clear_, run_underlying hu, zeroValue, typeInfo, hi, hz, hst]
    unfold Oper.wp execOp
    simp only [ho, resolve, invoke, builtin, Sem.run_bind, Sem.run_pure, Result.andThen_ok, List.map_toArray, List.map_cons, List.map_nil, hx, hrun]
    refine hK _ _ ⟨zs, z1, ⟨h0, fun r hr' => ?_, ?_, tt, setRow_heap w B _ _ tt _ hb⟩, only_setRow w B _⟩
    · rcases List.mem_append.1 hr' with h | h
      · exact hr r (List.mem_of_mem_take h)
      · rcases List.mem_append.1 h with h | h
        · exact z2 r h
        · exact hr r (List.mem_of_mem_drop h)
    · rw [List.length_append, List.length_append, List.length_take, List.length_drop, z1]
      omega
/-- A copy into a part. -/
theorem dx_cpV {t t' s B lo n c o1 : Nat} {x y : Operand} {v2 : Value} {R news : List (List Value)} {L : List Nat} (ho : o.op = .call { callee := .builtin .copy, args := #[x, y], argTypes := #[t, t'] }) (ht : sliceB P t s = true) (hx : ev f x = some (.slice (some ⟨B, o1, none⟩) n c)) (h1 : n ≠ 0 → o1 = lo * s) (hy : ev f y = some v2) (hR : RwB s w B R) (h2 : RdF s L w v2 news) (hone : ∀ r ∈ news.take n, ∀ u ∈ r, u.oneCell' = true) (hn : lo + n ≤ R.length) (hw : wantF ops o f = some true := by rfl) :
    DR P ops o N f w fun u W => u = .int .i64 (min news.length n : Nat) ∧ RwB s W B (R.take lo ++ (news.take n ++ R.drop (lo + min news.length n))) ∧ Only B w W := fun a ha => by
  obtain ⟨e, hu, hs⟩ := of_sliceB ht
  have hx := ha.ev hx
  have hy := ha.ev hy
  obtain ⟨h0, hr, hm, tt, hb⟩ := hR
  obtain ⟨_, hl2, a2, cap2, rfl, hd1, hd2, hd3, hd4⟩ := h2
  cases hi : P.info? e with
  | none => rw [hi] at hs; cases hs
  | some q =>
    have hq : q.size = s := by simpa [hi] using hs
    subst hq
    refine Does.of_wp (wantF_of ha hw) fun K hK => ?_
    have hl3 : ∀ r ∈ news.take n, r.length = q.size := fun r hr' => hl2 r (List.mem_of_mem_take hr')
    have hlen : (news.take n).flatten.length = min news.length n * q.size := by rw [flat_len hl3, List.length_take, Nat.min_comm]
    have hk : Nat.min news.length n = min news.length n := rfl
    by_cases hz : min news.length n = 0
    · have hnil : news.take n = [] := by
        rcases Nat.eq_zero_or_pos n with h | h
        · rw [h]; rfl
        · have : news.length = 0 := by omega
          rw [List.length_eq_zero_iff.1 this, List.take_nil]
      have hf : (Builtin.firstCells q.size 0 (.slice a2 news.length cap2)).run P w = .ok #[] w := by
        cases a2 with
        | none => simp [Builtin.firstCells]
        | some b => exact run_firstCells_some (P := P) w q.size 0 b news.length cap2 [] (by simp) (fun j u hj => by simp at hj)
      unfold Oper.wp execOp
      simp only [ho, resolve, invoke, builtin, Sem.run_bind, Sem.run_pure, Result.andThen_ok, List.map_toArray, List.map_cons, List.map_nil, hx, hy, Builtin.copy_, run_underlying hu, List.getElem?_toArray, List.getElem?_cons_zero, List.getElem?_cons_succ, Builtin.lenOf, hk, hz, sizeOf, typeInfo, run_program, hi, hf, storeCells]
      refine hK _ _ ⟨by rw [hz]; rfl, ⟨h0, by rw [hnil, hz]; simpa using hr, by rw [hnil, hz]; simpa using hm, tt, by rw [hnil, hz]; simpa using hb⟩, ⟨rfl, rfl, rfl, rfl, fun _ _ => rfl⟩⟩
    · have hne : news ≠ [] := fun e => hz (by rw [e]; simp)
      obtain rfl := h1 (by omega)
      obtain ⟨X, o0, rfl, hX, hc⟩ := hd4 hne
      have hf := run_firstCells_some (P := P) w q.size (min news.length n) ⟨X, o0, none⟩ news.length cap2 (news.take n).flatten hlen (fun j u hj => by
        rw [addr_at]
        refine hc j u ?_
        rw [← flat_take n hl2, List.getElem?_take] at hj
        split at hj
        · exact hj
        · cases hj)
      have hst := run_storeCells_at P B (lo * q.size) tt (news.take n).flatten 0 _ w hb (by rw [List.size_toArray, flat_len hr, hlen, Nat.add_zero, ← Nat.add_mul]; exact Nat.mul_le_mul_right _ (by omega)) (fun u hu' => by
        obtain ⟨r, hr', hur⟩ := List.mem_flatten.1 hu'
        exact hone r hr' u hur)
      simp only [Nat.add_zero] at hst
      have hcs : R.flatten.toArray.toList.take (lo * q.size) ++ (news.take n).flatten ++ R.flatten.toArray.toList.drop (lo * q.size + (news.take n).flatten.length) = (R.take lo ++ (news.take n ++ R.drop (lo + min news.length n))).flatten := by
        rw [hlen, ← Nat.add_mul, flat_take lo hr, flat_drop (lo + min news.length n) hr]
        simp
      rw [hcs] at hst
      unfold Oper.wp execOp
      simp only [ho, resolve, invoke, builtin, Sem.run_bind, Sem.run_pure, Result.andThen_ok, List.map_toArray, List.map_cons, List.map_nil, hx, hy, Builtin.copy_, run_underlying hu, List.getElem?_toArray, List.getElem?_cons_zero, List.getElem?_cons_succ, Builtin.lenOf, hk, sizeOf, typeInfo, run_program, hi, hf, hst]
      refine hK _ _ ⟨rfl, ⟨h0, fun r hr' => ?_, ?_, tt, setRow_heap w B _ _ tt _ hb⟩, only_setRow w B _⟩
      · rcases List.mem_append.1 hr' with h | h
        · exact hr r (List.mem_of_mem_take h)
        · rcases List.mem_append.1 h with h | h
          · exact hl3 r h
          · exact hr r (List.mem_of_mem_drop h)
      · rw [List.length_append, List.length_append, List.length_take, List.length_drop, List.length_take]
        omega
end
-- contracts of what writes to a block that it is given
/-- Of what was there just this block may have changed. -/
structure Chg (B : Nat) (w w' : World) : Prop where
  os : w'.os = w.os
  tape : w'.tape = w.tape
  output : w'.output = w.output
  size : w.heap.size ≤ w'.heap.size
  block : ∀ k, k < w.heap.size → k ≠ B → w'.heap[k]? = w.heap[k]?
theorem Chg.refl (B : Nat) (w : World) : Chg B w w := ⟨rfl, rfl, rfl, Nat.le_refl _, fun _ _ _ => rfl⟩
theorem Chg.thenB {B : Nat} {w W W' : World} (h : Chg B w W) (b : Below W.heap.size W W') : Chg B w W' :=
  ⟨by rw [b.os, h.os], by rw [b.tape, h.tape], by rw [b.output, h.output], Nat.le_trans h.size b.size, fun k hk hn => by rw [b.block k (Nat.lt_of_lt_of_le hk h.size), h.block k hk hn]⟩
theorem Chg.only {B C : Nat} {w W W' : World} (h : Chg B w W) (o : Only C W W') (hC : C = B ∨ w.heap.size ≤ C) : Chg B w W' :=
  ⟨by rw [o.os, h.os], by rw [o.tape, h.tape], by rw [o.output, h.output], by rw [o.size]; exact h.size, fun k hk hn => by rw [o.block k (by omega), h.block k hk hn]⟩
theorem Chg.grow {B C C' : Nat} {w W W' : World} (h : Chg B w W) (g : GrowB C C' W W') (hC : C = B ∨ w.heap.size ≤ C) : Chg B w W' :=
  ⟨by rw [g.os, h.os], by rw [g.tape, h.tape], by rw [g.output, h.output], Nat.le_trans h.size g.size, fun k hk hn => by rw [g.block k (Nat.lt_of_lt_of_le hk h.size) (by omega), h.block k hk hn]⟩
theorem Chg.growB {B B' : Nat} {w w' : World} (h : Chg B w w') (hB : B' = B ∨ w.heap.size ≤ B') : GrowB B B' w w' := ⟨h.os, h.tape, h.output, h.size, h.block, hB⟩
/-- The call returns, with this; of what was there just this block may have changed. -/
def CW (P : Program) (F : FuncId) (args : List Value) (w : World) (B : Nat) (R : Value → World → Prop) : Prop := Calls P F args.toArray w fun e w' => ∃ v, e = .returned v ∧ R v w' ∧ Chg B w w'
def finW (P : Program) (fn : Func) (R : Value → World → Prop) (B : Nat) (w0 : World) (a : Act) (w : World) : Prop := a.defers = [] ∧ ∃ v, (results fn a.tmps).run P w = .ok v w ∧ R v w ∧ Chg B w0 w
theorem CW.mono {P : Program} {F : FuncId} {args : List Value} {w : World} {B : Nat} {R R' : Value → World → Prop} (h : CW P F args w B R) (hr : ∀ v w', Chg B w w' → R v w' → R' v w') : CW P F args w B R' :=
  Calls.mono h fun e w' ⟨v, he, hR, hb⟩ => ⟨v, he, hr v w' hb hR, hb⟩
theorem cw_enter {P : Program} {F : FuncId} {fn : Func} {body : Code} {w : World} {B : Nat} {R : Value → World → Prop} {N : Nat} {vs : List Value} (hf : P.funcs[F]? = some fn) (hb : fn.body = some body) (hn : fn.ntmps = N) (hN : decide (vs.length ≤ N) = true) {f : Fl}
    (hfr : (vs.zipIdx.map fun p => (p.2, p.1)) = f) (h : ∀ Q : Exit → Act → World → Prop, (∀ {a W}, finW P fn R B w a W → Q .ret a W) → (∀ {a W}, finW P fn R B w a W → Q .normal a W) → WC P N body Q f w) : CW P F vs w B R :=
  calls_sx vs f hf hb hn hN hfr.symm (h _ (fun {a W} ⟨h1, v, h2, h3, h4⟩ => ⟨h1, v, h2, v, rfl, h3, h4⟩) (fun {a W} ⟨h1, v, h2, h3, h4⟩ => ⟨h1, v, h2, v, rfl, h3, h4⟩))
section
variable {P : Program} {ops : Array Oper} {o : Oper} {N : Nat} {f : Fl} {w : World} {R : Value → World → Prop} {fn : Func}
theorem cw_ret1 {B : Nat} {w0 : World} {r0 : ResultVar} {v0 : Value} (h : fn.results = #[r0]) (h0 : RV P f w r0 v0) (hR : R v0 w) (hb : Chg B w0 w) {a : Act} (ha : Fr N a f) : finW P fn R B w0 a w := by
  obtain ⟨x, v, hv, v', he, h1, h2⟩ := fn1 (Rr := fun e w' => ∃ v, e = .returned v ∧ R v w' ∧ Chg B w0 w') h h0 ⟨_, rfl, hR, hb⟩ ha
  cases he
  exact ⟨x, _, hv, h1, h2⟩
/-- A call of such a one, that gives a slice of one's own again. -/
theorem dx_cwO {s B : Nat} {rs : List (List Value)} {F : FuncId} {fn : Func} {xs : List Operand} {ts : Array TypeId} {vs : List Value} (ho : o.op = .call { callee := .value (.func F), args := xs.toArray, argTypes := ts }) (hf : P.funcs[F]? = some fn) (hn : (fn.name == "runtime.NumGoroutine") = false) (hb : fn.body.isNone = false)
    (hx : evl f xs = some vs) (hc : CW P F vs w B fun v W => ∃ B', OwS s W v rs B' ∧ (B' = B ∨ w.heap.size ≤ B')) (hw : wantF ops o f = some true := by rfl) : DR P ops o N f w (GrO s B w rs) :=
  dx_call (cap := #[]) ho rfl hf hn hb hx (by rw [Array.append_empty]; exact Calls.mono hc fun e w' ⟨v, he, ⟨B', h1, h2⟩, h3⟩ => ⟨v, he, B', h1, h3.growB h2⟩) hw
theorem mem_tail {α : Type} {rs sp : List α} {j : Nat} {r : α} (hj : j ≤ rs.length) (h : r ∈ ((rs ++ sp).drop j).take (rs.length - j)) : r ∈ rs := by
  rw [List.drop_append_of_le_length hj, List.take_append_of_le_length (by rw [List.length_drop]; omega)] at h
  exact List.mem_of_mem_drop (List.mem_of_mem_take h)
theorem mem_tail2 {α : Type} {rs sp : List α} {j a b : Nat} {r : α} (hj : j ≤ rs.length) (hb : b = rs.length - j) (hab : b ≤ a) (h : r ∈ (((rs ++ sp).drop j).take a).take b) : r ∈ rs := by
  rw [List.take_take, show min b a = rs.length - j by omega] at h
  exact mem_tail hj h
/-- What is left of rows when some are deleted. -/
theorem del_rows {rs sp zs : List (List Value)} {i j : Nat} (hij : i ≤ j) (hj : j ≤ rs.length) (hz : zs.length = j - i) :
    let R1 := (rs ++ sp).take i ++ ((((rs ++ sp).drop j).take (rs.length - j)) ++ (rs ++ sp).drop (i + (rs.length - j)))
    R1.take (i + (rs.length - j)) ++ (zs ++ R1.drop (i + (rs.length - j) + (j - i))) = (rs.take i ++ rs.drop j) ++ (zs ++ sp) := by
  have e1 : (rs ++ sp).take i = rs.take i := List.take_append_of_le_length (by omega)
  have e2 : ((rs ++ sp).drop j).take (rs.length - j) = rs.drop j := by
    rw [List.drop_append_of_le_length hj, List.take_append_of_le_length (by rw [List.length_drop]; omega), List.take_of_length_le (by rw [List.length_drop]; omega)]
  have l1 : (rs.take i).length = i := by rw [List.length_take]; omega
  have l2 : (rs.drop j).length = rs.length - j := List.length_drop
  simp only [e1, e2]
  have l3 : (rs.take i ++ rs.drop j).length = i + (rs.length - j) := by rw [List.length_append, l1, l2]
  have e3 : rs.take i ++ (rs.drop j ++ (rs ++ sp).drop (i + (rs.length - j))) = (rs.take i ++ rs.drop j) ++ (rs ++ sp).drop (i + (rs.length - j)) := (List.append_assoc _ _ _).symm
  have e4 : ((rs.take i ++ rs.drop j) ++ (rs ++ sp).drop (i + (rs.length - j))).take (i + (rs.length - j)) = rs.take i ++ rs.drop j := by
    rw [List.take_append_of_le_length (by omega), List.take_of_length_le (by omega)]
  have e5 : ((rs.take i ++ rs.drop j) ++ (rs ++ sp).drop (i + (rs.length - j))).drop (i + (rs.length - j) + (j - i)) = sp := by
    rw [List.drop_append, List.drop_eq_nil_of_le (by omega), List.nil_append, l3, List.drop_drop, show i + (rs.length - j) + (i + (rs.length - j) + (j - i) - (i + (rs.length - j))) = rs.length by omega]
    exact List.drop_left
  rw [e3, e4, e5]
end
end Go.Proofs.YtohnicmacmkapaaDoor
namespace Go.Proofs.YtohnicmacmkapaaDoor
open Go.RowKit
set_option linter.unusedVariables false
set_option linter.unusedSimpArgs false
theorem flat_inj {s : Nat} : ∀ {xs ys : List (List Value)}, (∀ r ∈ xs, r.length = s) → (∀ r ∈ ys, r.length = s) → xs.length = ys.length → xs.flatten = ys.flatten → xs = ys
  | [], [], _, _, _, _ => rfl
  | [], _ :: _, _, _, hl, _ => by simp at hl
  | _ :: _, [], _, _, hl, _ => by simp at hl
  | x :: xs, y :: ys, hx, hy, hl, he => by
    have h1 : x.length = y.length := by rw [hx x (.head _), hy y (.head _)]
    rw [List.flatten_cons, List.flatten_cons] at he
    obtain ⟨e1, e2⟩ := List.append_inj he h1
    rw [e1, flat_inj (fun r hr => hx r (.tail _ hr)) (fun r hr => hy r (.tail _ hr)) (by simpa using hl) e2]
section
variable {P : Program} {ops : Array Oper} {o : Oper} {N : Nat} {f : Fl} {w : World}
theorem RwB.rd {s : Nat} {w : World} {C : Nat} {vs sp : List (List Value)} (h : RwB s w C (vs ++ sp)) {L : List Nat} (hC : C ∉ L) : RdF s L w (.slice (some ⟨C, 0, none⟩) vs.length (vs ++ sp).length) vs := h.own.rd hC
theorem dx_cap {t : TypeId} {x : Operand} {a : Option Addr} {e : TypeId} {n c : Nat} (ho : o.op = .call { callee := .builtin .cap, args := #[x], argTypes := #[t] }) (ht : P.underlying t = some (.slice e)) (hx : ev f x = some (.slice a n c)) (hw : wantF ops o f = some true := by rfl) : DV P ops o N f w (.int .i64 (c : Int)) := fun k ha => by
  have hx := ha.ev hx
  exact Does.pure (wantF_of ha hw) _ (by unfold execOp; simp [ho, resolve, invoke, builtin, hx, Builtin.cap_, Sem.run_bind, run_underlying ht, goInt]) ⟨rfl, rfl⟩
/-- x[0:] of nil. -/
theorem dx_slN {t s : Nat} {x y : Operand} {K : IntKind} (ho : o.op = .slice t x (some y) none none) (ht : sliceB P t s = true) (hx : ev f x = some (.slice none 0 0)) (hy : ev f y = some (.int K 0)) (hw : wantF ops o f = some true := by rfl) : DV P ops o N f w (.slice none 0 0) := fun a ha => by
  obtain ⟨e, hu, hs⟩ := of_sliceB ht
  have hx := ha.ev hx
  have hy := ha.ev hy
  cases hi : P.info? e with
  | none => rw [hi] at hs; cases hs
  | some q =>
    refine Does.pure (wantF_of ha hw) _ ?_ ⟨rfl, rfl⟩
    unfold execOp
    simp only [ho, Option.map_none, Option.map_some, hx, hy, Instr.sliceAt, Sem.run_bind, run_underlying hu, Result.andThen_ok, Instr.slice, Instr.sliceBounds, Instr.sliceBound, asIntOf, Sem.run_pure, sizeOf, typeInfo, run_program, hi]
    rw [if_pos (by decide)]
    exact rfl
/-- A slice that is none, or has an address. -/
theorem RdF.nil_or {s : Nat} {L : List Nat} {w : World} {v : Value} {rs : List (List Value)} (h : RdF s L w v rs) : (v = .slice none 0 0 ∧ rs = []) ∨ ∃ a n c, v = .slice (some a) n c := by
  obtain ⟨_, _, a, c, rfl, h1, h2, h3, h4⟩ := h
  cases a with
  | none =>
    have hr : rs = [] := Classical.byContradiction fun hn => by obtain ⟨X, o, he, _⟩ := h4 hn; cases he
    subst hr
    exact .inl ⟨by rw [h3 rfl]; rfl, rfl⟩
  | some a => exact .inr ⟨a, _, c, rfl⟩
theorem dx_nilS {t t' : TypeId} {x : Operand} {a : Addr} {n c : Nat} {v : Value} {e : TypeId} (ho : o.op = .binOp .eql t x (.const (.slice none 0 0)) t') (hu : P.underlying t = some (.slice e)) (hx : ev f x = some v) (hv : v = .slice (some a) n c) (hw : wantF ops o f = some true := by rfl) : DV P ops o N f w (.bool false) := fun k ha => by
  subst hv
  have hx := ha.ev hx
  have e1 : binOp .eql t (.slice (some a) n c) (.slice none 0 0) = (do pure (.bool (← Op.equal t (.slice (some a) n c) (.slice none 0 0)))) := rfl
  have e2 : (Op.equal t (.slice (some a) n c) (.slice none 0 0)).run P w = .ok false w := eqIn_nil hu 9999 _ _ _
  exact Does.pure (wantF_of ha hw) _ (by unfold execOp; simp only [ho, hx, eval_c, eqGuard, Sem.run_bind, Sem.run_pure, Result.andThen_ok, e1]; show ((((Sem.run P (Op.equal t (Value.slice (some a) n c) (Value.slice none 0 0)) w).andThen fun a w' => Result.ok (Value.bool a) w').andThen fun a w' => Result.ok (Next.value a) w') = _); rw [e2]; rfl) ⟨rfl, rfl⟩
theorem eqIn_nilT {t : TypeId} {e : TypeId} (hu : P.underlying t = some (.slice e)) (d : Nat) : (Op.equalIn (d + 1) t (.slice none 0 0) (.slice none 0 0)).run P w = .ok true w := by
  simp [Op.equalIn, run_underlying hu]
theorem dx_nilT {t t' : TypeId} {x : Operand} {e : TypeId} (ho : o.op = .binOp .eql t x (.const (.slice none 0 0)) t') (hu : P.underlying t = some (.slice e)) (hx : ev f x = some (.slice none 0 0)) (hw : wantF ops o f = some true := by rfl) : DV P ops o N f w (.bool true) := fun k ha => by
  have hx := ha.ev hx
  have e1 : binOp .eql t (.slice none 0 0) (.slice none 0 0) = (do pure (.bool (← Op.equal t (.slice none 0 0) (.slice none 0 0)))) := rfl
  have e2 : (Op.equal t (.slice none 0 0) (.slice none 0 0)).run P w = .ok true w := eqIn_nilT hu 9999
  exact Does.pure (wantF_of ha hw) _ (by unfold execOp; simp only [ho, hx, eval_c, eqGuard, Sem.run_bind, Sem.run_pure, Result.andThen_ok, e1]; show ((((Sem.run P (Op.equal t (Value.slice none 0 0) (Value.slice none 0 0)) w).andThen fun a w' => Result.ok (Value.bool a) w').andThen fun a w' => Result.ok (Next.value a) w') = _); rw [e2]; rfl) ⟨rfl, rfl⟩
/-- Slices in two blocks of one's own don't overlap. -/
theorem dx_ovl {F : FuncId} {fn : Func} {t tR s B C o0 o1 n c m c' : Nat} {x y : Operand} {ts : Array TypeId} {U V : List (List Value)} (ho : o.op = .call { callee := .value (.func F), args := #[x, y], argTypes := ts }) (hf : P.funcs[F]? = some fn) (hn : (fn.name == "runtime.NumGoroutine") = false) (hb : fn.body.isNone = true) (hnx : Extern.findNext fn = none) (he : Extern.find fn = some (Extern.SlicesOverlaps.overlaps #[t, t] #[tR])) (ht : sliceB P t s = true)
    (hx : ev f x = some (.slice (some ⟨C, o0, none⟩) n c)) (hy : ev f y = some (.slice (some ⟨B, o1, none⟩) m c')) (hC : RwB s w C V) (hB : RwB s w B U) (hne : C ≠ B) (hU : U ≠ []) (hw : wantF ops o f = some true := by rfl) : DV P ops o N f w (.bool false) := fun a ha => by
  have hx := ha.ev hx
  have hy := ha.ev hy
  obtain ⟨e, hu, hs⟩ := of_sliceB ht
  obtain ⟨hc0, hcr, hcm, tc, hcb⟩ := hC
  obtain ⟨hb0, hbr, hbm, tb, hbb⟩ := hB
  cases hi : P.info? e with
  | none => rw [hi] at hs; cases hs
  | some q =>
    have hq : q.size = s := by simpa [hi] using hs
    have hz : ∀ w, (Go.sizeOf e).run P w = .ok s w := fun w => by simp [sizeOf, typeInfo, hi, hq]
    have hkB : U.flatten.toArray.size ≠ 0 := by
      rw [List.size_toArray, flat_len hbr]
      exact Nat.mul_ne_zero (fun h => hU (List.length_eq_zero_iff.1 h)) (by omega)
    have hrun := Lib.run_overlaps_apart (P := P) w t tR e hu s hz ⟨C, o0, none⟩ ⟨B, o1, none⟩ n c m c' hne tc tb V.flatten.toArray.size U.flatten.toArray.size (by simp [World.shape?, hcb]) (by simp [World.shape?, hbb]) hkB (by simp [World.frozen?, hcb]) (by simp [World.frozen?, hcb])
    refine Does.pure (wantF_of ha hw) _ ?_ ⟨rfl, rfl⟩
    have h1 := run_callFunc_extern (P := P) hf hn hb hnx he #[.slice (some ⟨C, o0, none⟩) n c, .slice (some ⟨B, o1, none⟩) m c'] w
    rw [hrun] at h1
    simp only [Result.andThen_ok] at h1
    have hfe : a.eval (.func F) = .func (.func F) #[] #[] := rfl
    unfold execOp
    simp only [ho, resolve, hfe, Deferred.ofValue, Sem.run_bind, Sem.run_pure, Result.andThen_ok, invoke, List.map_toArray, List.map_cons, List.map_nil, hx, hy, Array.empty_append, Array.append_empty]
    rw [h1]
/-- An append of zeros that there is no room for: what comes is new. -/
theorem dx_apZ {t tn s bytes B i : Nat} {K kn : IntKind} {x y : Operand} {j : Int} (m : Nat) {R : List (List Value)} (ho : o.op = .call { callee := .builtin .append, args := #[x, y], argTypes := #[t, tn] }) (ht : apB P t s bytes = true) (htn : P.underlying tn = some (.int kn)) (hx : ev f x = some (.slice (some ⟨B, 0, none⟩) i R.length)) (hy : ev f y = some (.int K j)) (hj : j = (m : Int))
    (hR : RwB s w B R) (hi : i ≤ R.length) (hg : R.length < i + m) (hm : i + m ≤ maxLen) (hby : (i + m) * bytes ≤ 140737488355328) (hw : wantF ops o f = some true := by rfl) :
    DR P ops o N f w fun u W => ∃ Z : List (List Value), u = .slice (some ⟨w.heap.size, 0, none⟩) (i + m) Z.length ∧ i + m ≤ Z.length ∧ Z.take i = R.take i ∧ RwB s W w.heap.size Z ∧ Below w.heap.size w W ∧ w.heap.size < W.heap.size := fun a ha => by
  subst hj
  obtain ⟨e, q, Z, hu, hi', hz, rfl, rfl, hzs⟩ := of_apB ht
  have hx := ha.ev hx
  have hy := ha.ev hy
  obtain ⟨h0, hr, hmR, tt, hb⟩ := hR
  unfold maxLen at hm
  have hrt : ∀ r ∈ R.take i, r.length = q.size := fun r hr' => hr r (List.mem_of_mem_take hr')
  have hfl : (R.take i).flatten.length = i * q.size := by rw [flat_len hrt, List.length_take]; congr 1; omega
  have hfo := run_firstCells_some (P := P) w.drew q.size i ⟨B, 0, none⟩ i R.length (R.take i).flatten hfl (fun k u hk => by
    rw [addr_at, World.cell?_drew]
    refine ((Blk.range ⟨tt, hb⟩ : w.rangeAt B 0 R.flatten)) k u ?_
    rw [← flat_take i hr, List.getElem?_take] at hk
    split at hk
    · exact hk
    · cases hk)
  have hwr : IntKind.i64.wrap (m : Int) = m := by rw [IntKind.wrap_i64]; omega
  have hneg : ¬ ((m : Int) < 0) := by omega
  have hm0 : m ≠ 0 := by omega
  have hns : ¬ (m * q.size = 0) := Nat.mul_ne_zero hm0 (by omega)
  have hbm : m * q.bytes ≤ (i + m) * q.bytes := Nat.mul_le_mul_right _ (by omega)
  have h48i : ¬ (281474976710656 < (m : Int) * (q.bytes : Int)) := by rw [← Int.natCast_mul]; omega
  have hn : ¬ (i + m ≤ R.length) := by omega
  have h63' : ¬ (9223372036854775807 < ((i : Int) + (m : Int))) := by omega
  have hfit := growslice_fits (old := R.length) (by omega) hby
  have h48' : ¬ (281474976710656 < Builtin.nextslicecap (i + m) R.length * q.bytes) := by omega
  have hrun : (Builtin.append_ #[t, tn] o.type #[.slice (some ⟨B, 0, none⟩) i R.length, .int K m]).run P w = .ok (.slice (some ⟨w.heap.size, 0, none⟩) (i + m) (grownCap w (i + m) R.length e)) (w.drew.alloc (.cells ((R.take i).flatten.toArray ++ Builtin.zeroCells Z.cells m ++ Builtin.zeroCells Z.cells (grownCap w (i + m) R.length e - (i + m))) e)) := by
    simp [Builtin.append_, run_underlying hu, run_underlying htn, sizeOf, typeInfo, zeroValue, hi', hz, asInt, asIntOf, hwr, hneg, hns, hn, h63', h48', h48i, Question.forced, hfo, newRow, grownCap]
  have hcl : ((R.take i).flatten.toArray ++ Builtin.zeroCells Z.cells m ++ Builtin.zeroCells Z.cells (grownCap w (i + m) R.length e - (i + m))).toList.length = grownCap w (i + m) R.length e * q.size := by
    have hge : i + m ≤ grownCap w (i + m) R.length e := grownCap_ge _ _ _ _
    rw [Array.length_toList, Array.size_append, Array.size_append, size_zeroCells, size_zeroCells, hzs, List.size_toArray, hfl, ← Nat.add_mul, ← Nat.add_mul]
    congr 1
    omega
  obtain ⟨rows, k1, k2, k3⟩ := rows_of (s := q.size) _ _ hcl
  have hge : i + m ≤ grownCap w (i + m) R.length e := grownCap_ge _ _ _ _
  refine Does.of_wp (wantF_of ha hw) fun K hK => ?_
  unfold Oper.wp execOp
  simp only [ho, resolve, invoke, builtin, Sem.run_bind, Sem.run_pure, Result.andThen_ok, List.map_toArray, List.map_cons, List.map_nil, hx, hy, hrun]
  refine hK _ _ ⟨rows, by rw [k1], by rw [k1]; exact hge, ?_, ⟨h0, k2, by rw [k1]; exact grownCap_le_maxLen _ _ _ _ (by unfold maxLen; omega), e, ?_⟩, below_alloc (below_draws (Below.refl _ _) 1) _, ?_⟩
  · refine flat_inj (s := q.size) (fun r hr' => k2 r (List.mem_of_mem_take hr')) hrt (by rw [List.length_take, List.length_take, k1]; omega) ?_
    rw [← flat_take i k2, k3]
    simp only [Array.toList_append]
    rw [List.append_assoc, List.take_append_of_le_length (by simpa using Nat.le_of_eq hfl.symm), List.take_of_length_le (by simpa using Nat.le_of_eq hfl)]
  · rw [show w.heap.size = w.drew.heap.size from (World.size_drew w).symm, heap_alloc_new, k3]
  · have := (below_alloc (below_draws (Below.refl w.heap.size w) 1) (.cells ((R.take i).flatten.toArray ++ Builtin.zeroCells Z.cells m ++ Builtin.zeroCells Z.cells (grownCap w (i + m) R.length e - (i + m))) e))
    rw [World.size_alloc, World.size_drew]
    omega
end
theorem ins_room {α : Type} {rs sp vs : List α} {i : Nat} (hi : i ≤ rs.length) (hm : rs.length + vs.length ≤ (rs ++ sp).length) :
    let R0 := rs ++ sp
    let R1 := R0.take (i + vs.length) ++ (((R0.drop i).take (rs.length + vs.length - i)).take (rs.length - i) ++ R0.drop (i + vs.length + (rs.length - i)))
    R1.take i ++ (vs ++ R1.drop (i + vs.length)) = (rs.take i ++ (vs ++ rs.drop i)) ++ R0.drop (rs.length + vs.length) := by
  have hl : (rs ++ sp).length = rs.length + sp.length := List.length_append
  have e1 : (((rs ++ sp).drop i).take (rs.length + vs.length - i)).take (rs.length - i) = rs.drop i := by
    rw [List.take_take, show min (rs.length - i) (rs.length + vs.length - i) = rs.length - i by omega, List.drop_append_of_le_length hi, List.take_append_of_le_length (by rw [List.length_drop]; omega), List.take_of_length_le (by rw [List.length_drop]; omega)]
  have l1 : ((rs ++ sp).take (i + vs.length)).length = i + vs.length := by rw [List.length_take]; omega
  simp only [e1]
  rw [List.take_append_of_le_length (by omega), List.take_take, show min i (i + vs.length) = i by omega, List.take_append_of_le_length hi]
  rw [List.drop_append, List.drop_eq_nil_of_le (by omega), List.nil_append, l1, Nat.sub_self, List.drop_zero, show i + vs.length + (rs.length - i) = rs.length + vs.length by omega]
  simp
theorem ins_grow {α : Type} {rs vs R2 : List α} {i : Nat} (hi : i ≤ rs.length) (hm : rs.length + vs.length ≤ R2.length) (ht : R2.take i = rs.take i) :
    let R3 := R2.take i ++ (vs ++ R2.drop (i + vs.length))
    R3.take (i + vs.length) ++ (rs.drop i ++ R3.drop (i + vs.length + (rs.length - i))) = (rs.take i ++ (vs ++ rs.drop i)) ++ R2.drop (rs.length + vs.length) := by
  have l1 : (rs.take i).length = i := by rw [List.length_take]; omega
  have l2 : (rs.take i ++ vs).length = i + vs.length := by rw [List.length_append, l1]
  have e0 : R2.take i ++ (vs ++ R2.drop (i + vs.length)) = (rs.take i ++ vs) ++ R2.drop (i + vs.length) := by rw [ht, List.append_assoc]
  have e1 : ((rs.take i ++ vs) ++ R2.drop (i + vs.length)).take (i + vs.length) = rs.take i ++ vs := by
    rw [List.take_append_of_le_length (by omega), List.take_of_length_le (by omega)]
  have e2 : ((rs.take i ++ vs) ++ R2.drop (i + vs.length)).drop (i + vs.length + (rs.length - i)) = R2.drop (rs.length + vs.length) := by
    have e3 : (rs.take i ++ vs).drop (i + vs.length + (rs.length - i)) = [] := List.drop_eq_nil_of_le (by omega)
    rw [List.drop_append, e3, List.nil_append, l2, List.drop_drop, show i + vs.length + (i + vs.length + (rs.length - i) - (i + vs.length)) = rs.length + vs.length by omega]
  intro R3
  rw [show R3 = (rs.take i ++ vs) ++ R2.drop (i + vs.length) from e0, e1, e2]
  simp
end Go.Proofs.YtohnicmacmkapaaDoor
namespace Go.Proofs.YtohnicmacmkapaaDoor
open Go.RowKit
set_option linter.unusedVariables false
set_option linter.unusedSimpArgs false
/-- Nil, or new since the base: a block of its own. -/
def NewS (s base : Nat) (rs : List (List Value)) (u : Value) (w : World) : Prop := (u = .slice none 0 0 ∧ rs = [] ∧ 0 < s) ∨ ∃ B sp, base ≤ B ∧ u = .slice (some ⟨B, 0, none⟩) rs.length (rs ++ sp).length ∧ RwB s w B (rs ++ sp) ∧ (rs = [] → sp = [])
theorem NewS.below {s base : Nat} {rs : List (List Value)} {u : Value} {w w' : World} (h : NewS s base rs u w) (hb : Below w.heap.size w w') : NewS s base rs u w' := by
  rcases h with h | ⟨B, sp, h1, h2, h3, h4⟩
  · exact .inl h
  · exact .inr ⟨B, sp, h1, h2, h3.below hb, h4⟩
theorem NewS.le {s base n : Nat} {rs : List (List Value)} {u : Value} {w : World} (h : NewS s base rs u w) (hn : n ≤ base) : NewS s n rs u w := by
  rcases h with h | ⟨B, sp, h1, h2⟩
  · exact .inl h
  · exact .inr ⟨B, sp, Nat.le_trans hn h1, h2⟩
theorem NewS.of_own {s base B : Nat} {rs : List (List Value)} {u : Value} {w : World} (h : OwS s w u rs B) (hb : base ≤ B) (hn : rs ≠ []) : NewS s base rs u w := by
  obtain ⟨sp, h1, h2⟩ := h.open
  exact .inr ⟨B, sp, hb, h1, h2, fun e => absurd e hn⟩
theorem NewS.of_lit {s base : Nat} {u : Value} {w : World} (h : NewE s base u w) : NewS s base [] u w := by
  obtain ⟨B, hb, rfl, ho⟩ := h
  obtain ⟨sp, h1, h2⟩ := ho.open
  have e : sp = [] := by
    have := congrArg (fun v : Value => match v with | .slice _ _ c => c | _ => 0) h1
    simp at this
    exact List.length_eq_zero_iff.1 this.symm
  subst e
  exact .inr ⟨B, [], hb, rfl, h2, fun _ => rfl⟩
theorem NewS.rd {s base : Nat} {rs : List (List Value)} {u : Value} {w : World} (h : NewS s base rs u w) {L : List Nat} (hL : ∀ x ∈ L, x < base) : RdF s L w u rs := by
  rcases h with ⟨rfl, rfl, h0⟩ | ⟨B, sp, h1, rfl, h3, h4⟩
  · exact RdF.nil h0
  · exact h3.rd (fun hx => by have := hL B hx; omega)
theorem rwb_ne {s : Nat} {w : World} {B C : Nat} {rs sp vp : List (List Value)} {row : List Value} (h : RwB s w B (rs ++ sp)) (hc : RwB s w C (row :: vp)) (he : rs = [] → sp = []) (hn : ∀ r ∈ rs, r ≠ row) : C ≠ B := fun e => by
  subst e
  obtain ⟨h0, hr, _, t, hb⟩ := h
  obtain ⟨_, hr', _, t', hb'⟩ := hc
  rw [hb] at hb'
  have e1 : (rs ++ sp).flatten = (row :: vp).flatten := by
    have := (Obj.cells.inj (Option.some.inj hb')).1
    simpa using this
  cases rs with
  | nil =>
    rw [he rfl] at e1
    have := congrArg List.length e1
    rw [List.flatten_cons, List.length_append, hr' row (.head _)] at this
    simp at this
    omega
  | cons r rs =>
    refine hn r (.head _) ?_
    rw [List.cons_append, List.flatten_cons, List.flatten_cons] at e1
    exact (List.append_inj e1 (by rw [hr r (.head _), hr' row (.head _)])).1
theorem Chg.from_base {B base : Nat} {w w' : World} (h : Chg B w w') (hB : base ≤ B) (hs : base ≤ w.heap.size) : Below base w w' := ⟨h.os, h.tape, h.output, h.size, fun k hk => h.block k (by omega) (by omega)⟩
section
variable {P : Program} {ops : Array Oper} {o : Oper} {N : Nat} {f : Fl} {w : World} {R : Value → World → Prop}
/-- An append to a literal of nothing. -/
theorem dx_apN {t s bytes base : Nat} {x y : Operand} {u v2 : Value} {news : List (List Value)} {L : List Nat} (ho : o.op = .call { callee := .builtin .append, args := #[x, y], argTypes := #[t, t] }) (ht : apB P t s bytes = true) (hx : ev f x = some u) (hy : ev f y = some v2)
    (h : NewE s base u w) (h2 : RdF s L w v2 news) (h1 : ∀ r ∈ news, ∀ u ∈ r, u.oneCell' = true) (hm : news.length ≤ maxLen) (hby : news.length * bytes ≤ 140737488355328) (hb : base ≤ w.heap.size) (hw : wantF ops o f = some true := by rfl) : DR P ops o N f w fun u W => Below w.heap.size w W ∧ NewS s base news u W := fun a ha => by
  by_cases hn : news = []
  · subst hn
    obtain ⟨e, q, Z, hu, hi, hz, rfl, rfl, hzs⟩ := of_apB ht
    have hx := ha.ev hx
    have hy := ha.ev hy
    have hN := NewS.of_lit h
    obtain ⟨B, hB, rfl, ho'⟩ := h
    obtain ⟨_, hl2, a2, cap2, rfl, hd1, hd2, hd3, hd4⟩ := h2
    have hr0 : (Builtin.append_ #[t, t] o.type #[.slice (some ⟨B, 0, none⟩) 0 0, .slice a2 0 cap2]).run P w = .ok (.slice (some ⟨B, 0, none⟩) 0 0) w := by
      cases a2 with
      | none => simp [Builtin.append_, run_underlying hu, sizeOf, typeInfo, hi, Builtin.lenOf, Builtin.firstCells, storeCells]
      | some a2 => simp [Builtin.append_, run_underlying hu, sizeOf, typeInfo, hi, Builtin.lenOf, Builtin.firstCells, loadCells, loadCellsFrom, storeCells]
    refine Does.of_wp (wantF_of ha hw) fun K hK => ?_
    unfold Oper.wp execOp
    simp only [List.length_nil] at hy
    simp only [ho, resolve, invoke, builtin, Sem.run_bind, Sem.run_pure, Result.andThen_ok, List.map_toArray, List.map_cons, List.map_nil, hx, hy, hr0]
    exact hK _ _ ⟨Below.refl _ _, hN⟩
  · exact Does.mono (dx_apE ho ht hx hy h h2 hm hby hb hw a ha) fun v W ⟨hb', B, hB, hO⟩ => ⟨hb', NewS.of_own hO hB hn⟩
/-- A call, by what it gives. -/
theorem dx_callA {F : FuncId} {fn : Func} {xs : List Operand} {ts : Array TypeId} {vs : List Value} (ho : o.op = .call { callee := .value (.func F), args := xs.toArray, argTypes := ts }) (hf : P.funcs[F]? = some fn) (hn : (fn.name == "runtime.NumGoroutine") = false) (hb : fn.body.isNone = false)
    (hx : evl f xs = some vs) (hc : Calls P F vs.toArray w fun e w' => ∃ v, e = .returned v ∧ R v w') (hw : wantF ops o f = some true := by rfl) : DR P ops o N f w R :=
  dx_call (cap := #[]) ho rfl hf hn hb hx (by rw [Array.append_empty]; exact hc) hw
end
/-- What was there at a base is as it was, behind what changed only what is newer. -/
theorem Below.then_base {base : Nat} {w0 w w' : World} (h : Below base w0 w) (k : Below base w w') : Below base w0 w' := h.trans k
end Go.Proofs.YtohnicmacmkapaaDoor
namespace Go.Proofs.YtohnicmacmkapaaDoor
open Go.RowKit
set_option linter.unusedVariables false
set_option linter.unusedSimpArgs false
/-- A text's byte. -/
def atS (s : ByteArray) (k : Nat) : Int := (s.data[k]?.getD 0).toNat
theorem atS_lo (s : ByteArray) (k : Nat) : 0 ≤ atS s k ∧ atS s k ≤ 255 := by
  unfold atS
  have := (s.data[k]?.getD 0).toNat_lt
  omega
-- rows that encode
theorem oc_rowsX {α : Type} {enc : α → List Value} (h : ∀ x, ∀ u ∈ enc x, u.oneCell' = true) (xs : List α) : ∀ r ∈ xs.map enc, ∀ u ∈ r, u.oneCell' = true := fun r hr => by
  obtain ⟨x, _, rfl⟩ := List.mem_map.1 hr
  exact h x
theorem at_mapX {α : Type} {enc : α → List Value} {xs : List α} {i : Nat} {x : α} (h : xs[i]? = some x) : (xs.map enc)[i]? = some (enc x) := by rw [List.getElem?_map, h]; rfl
/-- The first place of one of this kind. -/
def idxX {α : Type} (p : α → Bool) : List α → Int → Int
  | [], _ => -1
  | x :: l, i => if p x then i else idxX p l (i + 1)
theorem idxX_step {α : Type} {p : α → Bool} {xs : List α} {i : Nat} {x : α} (h : xs[i]? = some x) (hx : p x = false) : idxX p (xs.drop i) i = idxX p (xs.drop (i + 1)) ((i + 1 : Nat) : Int) := by
  obtain ⟨hl, he⟩ := List.getElem?_eq_some_iff.1 h
  rw [List.drop_eq_getElem_cons hl, he, idxX, hx]
  simp
theorem idxX_here {α : Type} {p : α → Bool} {xs : List α} {i : Nat} {x : α} (h : xs[i]? = some x) (hx : p x = true) : idxX p (xs.drop i) i = i := by
  obtain ⟨hl, he⟩ := List.getElem?_eq_some_iff.1 h
  rw [List.drop_eq_getElem_cons hl, he, idxX, hx]
  simp
theorem idxX_end {α : Type} {p : α → Bool} {xs : List α} {i : Nat} (h : ¬ (i : Int) < xs.length) : idxX p (xs.drop i) i = -1 := by
  rw [List.drop_eq_nil_of_le (by omega)]; rfl
theorem idxX_any {α : Type} {p : α → Bool} : ∀ (xs : List α) (i : Int), 0 ≤ i → decide (0 ≤ idxX p xs i) = xs.any p
  | [], i, _ => by simp [idxX]
  | x :: l, i, h => by
    unfold idxX
    cases hx : p x with
    | true => simp [hx, h]
    | false => simp [hx]; have := idxX_any (p := p) l (i + 1) (by omega); simpa using this
section
variable {P : Program} {ops : Array Oper} {o : Oper} {N : Nat} {f : Fl} {w : World}
theorem dx_lenX {α : Type} {enc : α → List Value} {xs : List α} {t s s' : Nat} {L : List Nat} {x : Operand} {v : Value} (ho : o.op = .call { callee := .builtin .len, args := #[x], argTypes := #[t] }) (ht : sliceB P t s' = true) (hx : ev f x = some v) (hr : RdF s L w v (xs.map enc)) (hw : wantF ops o f = some true := by rfl) : DV P ops o N f w (.int .i64 (xs.length : Int)) := by
  have := dx_lenF (N := N) ho ht hx hr hw
  rwa [List.length_map] at this
theorem dx_at {t : TypeId} {x y : Operand} {s : ByteArray} {K : IntKind} {i : Int} (k : Nat) (ho : o.op = .index t x y) (ht : P.underlying t = some .string) (hx : ev f x = some (.string s)) (hy : ev f y = some (.int K i)) (hi : i = (k : Int)) (hk : k < s.size) (hw : wantF ops o f = some true := by rfl) : DV P ops o N f w (.int .u8 (atS s k)) := fun a ha => by
  subst hi
  have hx := ha.ev hx
  have hy := ha.ev hy
  have hk' : k < s.data.size := hk
  have e : s[k]? = some (s.data[k]?.getD 0) := by
    rw [getElem?_pos s k hk, Array.getElem?_eq_getElem hk']
    rfl
  refine Does.pure (wantF_of ha hw) _ ?_ ⟨rfl, rfl⟩
  unfold execOp
  simp only [ho, hx, hy, Instr.index, asIntOf, Sem.run_bind, Sem.run_pure, Result.andThen_ok, run_underlying ht]
  have h0 : (0 : Int) ≤ (k : Int) := by omega
  simp [h0, e, atS]
end
end Go.Proofs.YtohnicmacmkapaaDoor
namespace Go.Proofs.YtohnicmacmkapaaDoor
open Go.RowKit
set_option linter.unusedVariables false
section
variable {α : Type} {g : α → Bool} {r : α → α → Bool} {n : Nat}
def upL (r : α → α → Bool) : List α → Bool
  | a :: b :: l => r a b && upL r (b :: l)
  | _ => true
def rightL (n : Nat) (g : α → Bool) (r : α → α → Bool) (xs : List α) : Bool := decide (xs.length ≤ n) && (xs.all g && upL r xs)
theorem upL_t : ∀ (xs : List α), (∀ k a b, k + 1 < xs.length → xs[k]? = some a → xs[k + 1]? = some b → r a b = true) → upL r xs = true
  | [], _ => rfl
  | [a], _ => rfl
  | a :: b :: l, h => by
    unfold upL
    rw [h 0 a b (by simp) rfl rfl, Bool.true_and]
    exact upL_t (b :: l) fun k x y hk hx hy => h (k + 1) x y (by simpa using hk) (by simpa using hx) (by simpa using hy)
theorem upL_f : ∀ (xs : List α) (k : Nat) (a b : α), xs[k]? = some a → xs[k + 1]? = some b → r a b = false → upL r xs = false
  | [], k, a, b, h, _, _ => by simp at h
  | [x], k, a, b, _, h, _ => by simp at h
  | x :: y :: l, 0, a, b, h1, h2, h => by
    simp at h1 h2
    subst h1 h2
    simp [upL, h]
  | x :: y :: l, k + 1, a, b, h1, h2, h => by
    unfold upL
    rw [upL_f (y :: l) k a b (by simpa using h1) (by simpa using h2) h, Bool.and_false]
theorem right_t {xs : List α} (h : xs.length ≤ n) (hv : ∀ k a, k < xs.length → xs[k]? = some a → g a = true) (hu : ∀ k a b, k + 1 < xs.length → xs[k]? = some a → xs[k + 1]? = some b → r a b = true) : rightL n g r xs = true := by
  unfold rightL
  rw [decide_eq_true h, upL_t xs hu, Bool.and_true, Bool.true_and, List.all_eq_true]
  intro x hx
  obtain ⟨k, hk, rfl⟩ := List.getElem_of_mem hx
  exact hv k _ hk (List.getElem?_eq_getElem hk)
theorem right_f1 {xs : List α} (h : n < xs.length) : rightL n g r xs = false := by
  unfold rightL
  rw [decide_eq_false (by omega), Bool.false_and]
theorem right_f2 {xs : List α} {k : Nat} {a : α} (h : xs[k]? = some a) (ha : g a = false) : rightL n g r xs = false := by
  have : xs.all g = false := List.all_eq_false.2 ⟨a, List.mem_of_getElem? h, by simp [ha]⟩
  unfold rightL
  rw [this, Bool.false_and, Bool.and_false]
theorem right_f3 {xs : List α} {k i : Nat} {a b : α} (hk : xs[k]? = some a) (hi : xs[i]? = some b) (e : k + 1 = i) (h : r a b = false) : rightL n g r xs = false := by
  subst e
  unfold rightL
  rw [upL_f xs k a b hk hi h, Bool.and_false, Bool.and_false]
/-- The loop's facts, one step on. -/
theorem good_step {xs : List α} {i : Nat} {a : α} (h : ∀ k a, k < i → xs[k]? = some a → g a = true) (hi : xs[i]? = some a) (ha : g a = true) : ∀ k b, k < i + 1 → xs[k]? = some b → g b = true := fun k b hk hb => by
  rcases Nat.lt_or_ge k i with hl | hl
  · exact h k b hl hb
  · obtain rfl : k = i := by omega
    rw [hi] at hb
    cases hb
    exact ha
theorem up_step0 {xs : List α} {i : Nat} (hi : ¬ 0 < i) : ∀ k a b, k + 1 < i + 1 → xs[k]? = some a → xs[k + 1]? = some b → r a b = true := fun k a b hk _ _ => by omega
theorem up_step {xs : List α} {i j : Nat} {a b : α} (h : ∀ k a b, k + 1 < i → xs[k]? = some a → xs[k + 1]? = some b → r a b = true) (hj : xs[j]? = some a) (hi : xs[i]? = some b) (e : j + 1 = i) (hab : r a b = true) : ∀ k a b, k + 1 < i + 1 → xs[k]? = some a → xs[k + 1]? = some b → r a b = true := fun k x y hk hx hy => by
  rcases Nat.lt_or_ge (k + 1) i with hl | hl
  · exact h k x y hl hx hy
  · obtain rfl : k = j := by omega
    subst e
    rw [hj] at hx
    rw [hi] at hy
    cases hx
    cases hy
    exact hab
-- what a drawn test says: c: not good; d: there is one ahead
theorem not3 {a b c x y z : Bool} (h1 : a = !x) (h2 : b = (a || !y)) (h3 : c = (b || !z)) : c = !(x && (y && z)) := by
  subst h1 h2 h3
  cases x <;> cases y <;> cases z <;> rfl
theorem stepD {xs : List α} {i : Nat} {x y : α} {c d : Bool} (hv : ∀ k a, k < i → xs[k]? = some a → g a = true) (hu : ∀ k a b, k + 1 < i → xs[k]? = some a → xs[k + 1]? = some b → r a b = true) (hj : xs[i - 1]? = some y) (hi : xs[i]? = some x) (hc : c = !g x) (hd : d = (!c && decide (0 < (i : Int)))) (h1 : c = false) (h2 : (d && !r y x) = false) :
    (∀ k a, k < i + 1 → xs[k]? = some a → g a = true) ∧ (∀ k a b, k + 1 < i + 1 → xs[k]? = some a → xs[k + 1]? = some b → r a b = true) := by
  have hg : g x = true := by rw [h1] at hc; cases hx : g x <;> simp_all
  refine ⟨good_step hv hi hg, ?_⟩
  by_cases h0 : 0 < i
  · refine up_step hu hj hi (by omega) ?_
    have hd1 : d = true := by rw [hd, h1, decide_eq_true (by omega)]; rfl
    rw [hd1] at h2
    simpa using h2
  · exact up_step0 h0
theorem right_fD {xs : List α} {i : Nat} {x y : α} {c d : Bool} (hj : xs[i - 1]? = some y) (hi : xs[i]? = some x) (hc : c = !g x) (hd : d = (!c && decide (0 < (i : Int)))) (h : (c || (d && !r y x)) = true) : rightL n g r xs = false := by
  cases hx : g x with
  | false => exact right_f2 hi hx
  | true =>
    rw [hx] at hc
    subst hc
    simp only [Bool.not_true, Bool.not_false, Bool.true_and] at hd
    subst hd
    simp only [Bool.not_true, Bool.false_or, Bool.and_eq_true, decide_eq_true_eq, Bool.not_eq_true'] at h
    exact right_f3 hj hi (by omega) h.2
-- what it means
theorem right_iff {xs : List α} (ht : ∀ a b c, r a b = true → r b c = true → r a c = true) : rightL n g r xs = true ↔ xs.length ≤ n ∧ (∀ x ∈ xs, g x = true) ∧ xs.Pairwise (fun a b => r a b = true) := by
  have key : ∀ l : List α, upL r l = true ↔ l.Pairwise (fun a b => r a b = true) := by
    intro l
    induction l with
    | nil => simp [upL]
    | cons a l ih =>
      cases l with
      | nil => simp [upL]
      | cons b l =>
        rw [upL, Bool.and_eq_true, ih]
        constructor
        · rintro ⟨h1, h2⟩
          refine List.pairwise_cons.2 ⟨fun x hx => ?_, h2⟩
          rcases List.mem_cons.1 hx with rfl | hx
          · exact h1
          · exact ht _ _ _ h1 ((List.pairwise_cons.1 h2).1 x hx)
        · intro h
          exact ⟨(List.pairwise_cons.1 h).1 b (.head _), (List.pairwise_cons.1 h).2⟩
  unfold rightL
  rw [Bool.and_eq_true, Bool.and_eq_true, decide_eq_true_iff, List.all_eq_true, key]
end
theorem right_len {α : Type} {n : Nat} {g : α → Bool} {r : α → α → Bool} {xs : List α} (h : rightL n g r xs = true) : xs.length ≤ n := by
  unfold rightL at h
  simp only [Bool.and_eq_true, decide_eq_true_eq] at h
  exact h.1
-- the first place
theorem idxX_lt {α : Type} {p : α → Bool} : ∀ (xs : List α) (i : Int), idxX p xs i = -1 ∨ (i ≤ idxX p xs i ∧ idxX p xs i < i + xs.length)
  | [], i => .inl rfl
  | x :: l, i => by
    unfold idxX
    split
    · refine .inr ⟨by omega, by simp; omega⟩
    · rcases idxX_lt l (i + 1) with h | ⟨h1, h2⟩
      · exact .inl h
      · refine .inr ⟨by omega, by simp only [List.length_cons]; omega⟩
theorem idxX_is {α : Type} {p : α → Bool} : ∀ (xs : List α) (i : Int), 0 ≤ i → 0 ≤ idxX p xs i → ∃ k a, idxX p xs i = i + (k : Nat) ∧ xs[k]? = some a ∧ p a = true ∧ ∀ j b, j < k → xs[j]? = some b → p b = false
  | [], i, _, h => by simp [idxX] at h
  | x :: l, i, hi, h => by
    unfold idxX at h ⊢
    cases hx : p x with
    | true =>
      simp only [if_pos]
      exact ⟨0, x, by simp, rfl, hx, fun j b hj => absurd hj (by omega)⟩
    | false =>
      rw [hx] at h
      simp only [Bool.false_eq_true, if_false] at h ⊢
      obtain ⟨k, a, h1, h2, h3, h4⟩ := idxX_is l (i + 1) (by omega) h
      refine ⟨k + 1, a, by rw [h1]; omega, by simpa using h2, h3, fun j b hj hb => ?_⟩
      cases j with
      | zero => simp at hb; subst hb; exact hx
      | succ j => exact h4 j b (by omega) (by simpa using hb)
theorem idxX_no {α : Type} {p : α → Bool} : ∀ (xs : List α) (i : Int), 0 ≤ i → idxX p xs i < 0 → ∀ a ∈ xs, p a = false
  | [], i, _, _, a, ha => by cases ha
  | x :: l, i, hi, h, a, ha => by
    unfold idxX at h
    cases hx : p x with
    | true => rw [hx] at h; simp at h; omega
    | false =>
      rw [hx] at h
      simp only [Bool.false_eq_true, if_false] at h
      rcases List.mem_cons.1 ha with rfl | ha
      · exact hx
      · exact idxX_no l (i + 1) (by omega) h a ha
end Go.Proofs.YtohnicmacmkapaaDoor
namespace Go.Proofs.YtohnicmacmkapaaDoor
open Go.RowKit
set_option linter.unusedVariables false
theorem bl_irrefl : ∀ x : List UInt8, Op.bytesLess x x = false
  | [] => rfl
  | a :: x => by
    have h : ¬ a < a := by simp
    rw [Op.bytesLess, bl_irrefl x, decide_eq_false h]; simp
theorem u8_tri (a b : UInt8) : a < b ∨ a = b ∨ b < a := by
  rcases Nat.lt_trichotomy a.toNat b.toNat with h | h | h
  · exact .inl (UInt8.lt_iff_toNat_lt.2 h)
  · exact .inr (.inl (UInt8.toNat_inj.1 h))
  · exact .inr (.inr (UInt8.lt_iff_toNat_lt.2 h))
theorem u8_no {a b : UInt8} (h : a < b) : ¬ b < a ∧ a ≠ b := by
  have := UInt8.lt_iff_toNat_lt.1 h
  constructor
  · intro g; have := UInt8.lt_iff_toNat_lt.1 g; omega
  · intro g; rw [g] at this; omega
theorem bl_tri : ∀ x y : List UInt8, (Op.bytesLess x y = true ∧ Op.bytesLess y x = false ∧ x ≠ y) ∨ (Op.bytesLess x y = false ∧ Op.bytesLess y x = true ∧ x ≠ y) ∨ x = y
  | [], [] => .inr (.inr rfl)
  | [], _ :: _ => .inl ⟨rfl, rfl, by simp⟩
  | _ :: _, [] => .inr (.inl ⟨rfl, rfl, by simp⟩)
  | a :: x, b :: y => by
    rcases u8_tri a b with h | h | h
    · obtain ⟨h1, h2⟩ := u8_no h
      exact .inl ⟨by simp [Op.bytesLess, h], by simp [Op.bytesLess, h1]; exact fun e => absurd e.symm h2, fun e => h2 (List.cons.inj e).1⟩
    · subst h
      have h0 : ¬ a < a := by simp
      rcases bl_tri x y with ⟨p, q, r⟩ | ⟨p, q, r⟩ | r
      · exact .inl ⟨by simp [Op.bytesLess, p], by simp [Op.bytesLess, h0, q], fun e => r (List.cons.inj e).2⟩
      · exact .inr (.inl ⟨by simp [Op.bytesLess, h0, p], by simp [Op.bytesLess, q], fun e => r (List.cons.inj e).2⟩)
      · exact .inr (.inr (by rw [r]))
    · obtain ⟨h1, h2⟩ := u8_no h
      exact .inr (.inl ⟨by simp [Op.bytesLess, h1]; exact fun e => absurd e.symm h2, by simp [Op.bytesLess, h], fun e => h2 (List.cons.inj e).1.symm⟩)
theorem bl_trans : ∀ x y z : List UInt8, Op.bytesLess x y = true → Op.bytesLess y z = true → Op.bytesLess x z = true
  | [], [], _, h, _ => by simp [Op.bytesLess] at h
  | _ :: _, [], _, h, _ => by simp [Op.bytesLess] at h
  | [], _ :: _, [], _, g => by simp [Op.bytesLess] at g
  | _ :: _, _ :: _, [], _, g => by simp [Op.bytesLess] at g
  | [], _ :: _, _ :: _, _, _ => rfl
  | a :: x, b :: y, c :: z, h, g => by
    have h' : a < b ∨ (a = b ∧ Op.bytesLess x y = true) := by simpa [Op.bytesLess] using h
    have g' : b < c ∨ (b = c ∧ Op.bytesLess y z = true) := by simpa [Op.bytesLess] using g
    have : a < c ∨ (a = c ∧ Op.bytesLess x z = true) := by
      rcases h' with h' | ⟨rfl, h'⟩
      · rcases g' with g' | ⟨rfl, g'⟩
        · exact .inl (UInt8.lt_iff_toNat_lt.2 (by have := UInt8.lt_iff_toNat_lt.1 h'; have := UInt8.lt_iff_toNat_lt.1 g'; omega))
        · exact .inl h'
      · rcases g' with g' | ⟨rfl, g'⟩
        · exact .inl g'
        · exact .inr ⟨rfl, bl_trans x y z h' g'⟩
    simpa [Op.bytesLess] using this
theorem toList_inj {a b : ByteArray} (h : a.toList = b.toList) : a = b := by
  rw [ByteArray.toList_eq, ByteArray.toList_eq] at h
  exact ByteArray.ext (Array.toList_inj.mp h)
theorem sless_irrefl (a : ByteArray) : sless a a = false := bl_irrefl _
theorem sless_trans (a b c : ByteArray) (h : sless a b = true) (g : sless b c = true) : sless a c = true := bl_trans _ _ _ h g
theorem sless_tri (a b : ByteArray) : (sless a b = true ∧ sless b a = false ∧ a ≠ b) ∨ (sless a b = false ∧ sless b a = true ∧ a ≠ b) ∨ a = b := by
  rcases bl_tri a.toList b.toList with ⟨p, q, r⟩ | ⟨p, q, r⟩ | r
  · exact .inl ⟨p, q, fun e => r (by rw [e])⟩
  · exact .inr (.inl ⟨p, q, fun e => r (by rw [e])⟩)
  · exact .inr (.inr (toList_inj r))
theorem sless_ne {a b : ByteArray} (h : sless a b = true) : a ≠ b := fun e => by rw [e, sless_irrefl] at h; cases h
theorem sless_asymm {a b : ByteArray} (h : sless a b = true) : sless b a = false := by
  rcases sless_tri a b with ⟨_, q, _⟩ | ⟨p, _, _⟩ | rfl
  · exact q
  · rw [p] at h; cases h
  · rw [sless_irrefl] at h; cases h
end Go.Proofs.YtohnicmacmkapaaDoor
namespace Go.Proofs.YtohnicmacmkapaaDoor
open Go.RowKit Go.Sort
set_option linter.unusedVariables false
set_option linter.unusedSimpArgs false
-- the order of lists of bytes
theorem bl_lt : ∀ x y : List UInt8, Op.bytesLess x y = decide (x < y)
  | _, [] => by cases ‹List UInt8› <;> simp [Op.bytesLess]
  | [], _ :: _ => by simp [Op.bytesLess]
  | a :: x, b :: y => by
    rw [Op.bytesLess, bl_lt x y]
    rcases u8_tri a b with h | h | h
    · simp [h, List.cons_lt_cons_iff]
    · subst h
      simp [List.cons_lt_cons_iff]
    · obtain ⟨h1, h2⟩ := u8_no h
      have h3 : ¬ a = b := fun e => h2 e.symm
      simp [h1, h3, List.cons_lt_cons_iff]
theorem bl_le (x y : List UInt8) : decide (x ≤ y) = !Op.bytesLess y x := by
  rw [bl_lt]
  by_cases h : y < x
  · simp [h, List.not_le.2 h]
  · simp [h, List.not_lt.1 h]
abbrev bL (s : ByteArray) : List UInt8 := s.data.toList
abbrev bA (l : List UInt8) : ByteArray := ⟨l.toArray⟩
theorem bA_bL (s : ByteArray) : bA (bL s) = s := rfl
/-- Sorted; each once. -/
def sortT (ts : List ByteArray) : List ByteArray := ((ts.map bL).mergeSort fun x y => decide (x ≤ y)).map bA
def onceT (ts : List ByteArray) : List ByteArray := (Lib.compact (ts.map bL)).map bA
theorem bL_bA (l : List UInt8) : bL (bA l) = l := rfl
theorem sless_bA (x y : List UInt8) : sless (bA x) (bA y) = Op.bytesLess x y := by
  unfold sless
  rw [ByteArray.toList_eq, ByteArray.toList_eq]
theorem sortT_len (ts : List ByteArray) : (sortT ts).length = ts.length := by simp [sortT, List.length_mergeSort]
theorem sortT_mem (ts : List ByteArray) (s : ByteArray) : s ∈ sortT ts ↔ s ∈ ts := by
  unfold sortT
  simp only [List.mem_map, List.mem_mergeSort]
  constructor
  · rintro ⟨l, ⟨t, ht, rfl⟩, rfl⟩
    exact ht
  · exact fun h => ⟨_, ⟨s, h, rfl⟩, rfl⟩
theorem sortT_le (ts : List ByteArray) : (sortT ts).Pairwise fun a b => sless b a = false := by
  unfold sortT
  rw [List.pairwise_map]
  have h := List.pairwise_mergeSort (le := fun x y : List UInt8 => decide (x ≤ y)) (fun a b c h1 h2 => ?_) (fun a b => ?_) (ts.map bL)
  · refine h.imp fun {a b} hab => ?_
    rw [sless_bA]
    rw [bl_le] at hab
    simpa using hab
  · simp only [bl_le, Bool.not_eq_true'] at h1 h2 ⊢
    rcases bl_tri c a with ⟨p, _, _⟩ | ⟨p, _, _⟩ | rfl
    · rcases bl_tri b a with ⟨q, _, _⟩ | ⟨_, q, _⟩ | rfl
      · rw [q] at h1; cases h1
      · rw [bl_trans _ _ _ p q] at h2; cases h2
      · rw [p] at h2; cases h2
    · exact p
    · exact bl_irrefl _
  · simp only [bl_le, Bool.or_eq_true, Bool.not_eq_true']
    rcases bl_tri a b with ⟨_, p, _⟩ | ⟨p, _, _⟩ | rfl
    · exact .inl p
    · exact .inr p
    · exact .inl (bl_irrefl _)
theorem once_mem (zs : List (List UInt8)) (x : List UInt8) : x ∈ Lib.compact zs ↔ x ∈ zs := by
  unfold Lib.compact Lib.compactUpTo
  simp only [List.mem_map, List.mem_filter, List.mem_range]
  constructor
  · rintro ⟨j, ⟨hj, _⟩, rfl⟩
    rw [getElem!_pos zs.toArray j (by simpa using hj)]
    exact List.getElem_mem _
  · intro hx
    obtain ⟨k, hk, rfl⟩ := List.getElem_of_mem hx
    have key : ∀ n k (hk : k < zs.length), k ≤ n → ∃ j, (j < zs.length ∧ Lib.keeps zs.toArray j = true) ∧ zs.toArray[j]! = zs[k] := by
      intro n
      induction n with
      | zero =>
        intro k hk hn
        obtain rfl : k = 0 := by omega
        exact ⟨0, ⟨hk, by simp [Lib.keeps]⟩, by rw [getElem!_pos zs.toArray 0 (by simpa using hk)]; rfl⟩
      | succ n ih =>
        intro k hk hn
        by_cases hq : Lib.keeps zs.toArray k = true
        · exact ⟨k, ⟨hk, hq⟩, by rw [getElem!_pos zs.toArray k (by simpa using hk)]; rfl⟩
        · have h1 : ¬ (k = 0 ∨ zs.toArray[k]! ≠ zs.toArray[k - 1]!) := fun h => hq (by unfold Lib.keeps; exact decide_eq_true h)
          have h2 : k ≠ 0 := fun e => h1 (.inl e)
          have h3 : zs.toArray[k]! = zs.toArray[k - 1]! := Classical.byContradiction fun e => h1 (.inr e)
          obtain ⟨j, hj, e⟩ := ih (k - 1) (by omega) (by omega)
          refine ⟨j, hj, ?_⟩
          rw [getElem!_pos zs.toArray k (by simpa using hk), getElem!_pos zs.toArray (k - 1) (by simp; omega)] at h3
          rw [e]
          simpa using h3.symm
    exact key k k hk (Nat.le_refl _)
theorem onceT_mem (ts : List ByteArray) (s : ByteArray) : s ∈ onceT ts ↔ s ∈ ts := by
  unfold onceT
  simp only [List.mem_map, once_mem]
  constructor
  · rintro ⟨l, ⟨t, ht, rfl⟩, rfl⟩
    exact ht
  · exact fun h => ⟨_, ⟨s, h, rfl⟩, rfl⟩
theorem onceT_up {ts : List ByteArray} (h : ts.Pairwise fun a b => sless b a = false) : (onceT ts).Pairwise fun a b => sless a b = true := by
  unfold onceT Lib.compact Lib.compactUpTo
  rw [List.map_map, List.pairwise_map]
  refine List.Pairwise.imp_of_mem ?_ (List.Pairwise.filter _ List.pairwise_lt_range)
  intro i j hi hj hij
  simp only [List.mem_filter, List.mem_range, List.length_map] at hi hj
  have gi : (ts.map bL).toArray[i]! = bL ts[i] := by rw [getElem!_pos _ i (by simpa using hi.1)]; simp
  have gj : (ts.map bL).toArray[j]! = bL ts[j] := by rw [getElem!_pos _ j (by simpa using hj.1)]; simp
  have gp : (ts.map bL).toArray[j - 1]! = bL (ts[j - 1]'(by omega)) := by rw [getElem!_pos _ (j - 1) (by simp; omega)]; simp
  have hk := of_decide_eq_true hj.2
  rw [gj, gp] at hk
  have hne : ts[j] ≠ ts[j - 1]'(by omega) := by
    rcases hk with hk | hk
    · omega
    · exact fun e => hk (by rw [e])
  have h1 := List.pairwise_iff_getElem.1 h (j - 1) j (by omega) hj.1 (by omega)
  show sless (bA (ts.map bL).toArray[i]!) (bA (ts.map bL).toArray[j]!) = true
  rw [gi, gj]
  show sless ts[i] ts[j] = true
  have h2 : sless (ts[j - 1]'(by omega)) ts[j] = true := by
    rcases sless_tri (ts[j - 1]'(by omega)) ts[j] with ⟨p, _, _⟩ | ⟨_, p, _⟩ | p
    · exact p
    · rw [p] at h1; cases h1
    · exact absurd p.symm hne
  by_cases hij' : i = j - 1
  · subst hij'; exact h2
  · have h3 := List.pairwise_iff_getElem.1 h i (j - 1) hi.1 (by omega) (by omega)
    rcases sless_tri ts[i] (ts[j - 1]'(by omega)) with ⟨p, _, _⟩ | ⟨_, p, _⟩ | p
    · exact sless_trans _ _ _ p h2
    · rw [p] at h3; cases h3
    · rw [p]; exact h2
-- texts of one's own
theorem flat_T {enc : ByteArray → List Value} (he : ∀ s, enc s = [.string s]) : ∀ ts : List ByteArray, (ts.map enc).flatten = (ts.map bL).map encStr
  | [] => rfl
  | a :: l => by rw [List.map_cons, List.flatten_cons, flat_T he l, he]; rfl
theorem OwS.holds {w : World} {v : Value} {ts : List ByteArray} {B : Nat} {enc : ByteArray → List Value} (he : ∀ s, enc s = [.string s]) (h : OwS 1 w v (ts.map enc) B) : ∃ cap cur t, v = .slice (some ⟨B, 0, none⟩) (ts.map bL).length cap ∧ ts.length ≤ cap ∧ cap ≤ maxLen ∧ w.heap[B]? = some (.cells cur t (0, 0)) ∧ cur.size = cap ∧ Holds encStr w B 0 (ts.map bL).toArray := by
  obtain ⟨_, hr, cap, sp, rfl, h1, h2, h3, t, hb⟩ := h
  simp only [List.length_map, Nat.mul_one] at h1 h3
  rw [flat_T he] at hb
  refine ⟨cap, _, t, by simp, h1, h2, hb, by simp; omega, fun j hj => ?_⟩
  have hj' : j < ts.length := by simpa using hj
  refine ⟨?_, by simp [World.frozen?, hb]⟩
  refine (Blk.range ⟨t, hb⟩) j _ ?_
  rw [List.getElem?_append_left (by simpa using hj'), getElem!_pos _ j hj]
  simp [hj']
theorem ows_cur {w : World} {B n cap : Nat} {t : TypeId} {cur : Array Value} {ts : List ByteArray} {enc : ByteArray → List Value} (he : ∀ s, enc s = [.string s]) (hb : w.heap[B]? = some (.cells cur t (0, 0))) (hs : cur.size = cap) (hn : n ≤ cap) (hc : cap ≤ maxLen) (ht : cur.toList.take n = (ts.map bL).map encStr) (hl : ts.length = n) : OwS 1 w (.slice (some ⟨B, 0, none⟩) n cap) (ts.map enc) B := by
  refine ⟨by decide, fun r hr => ?_, cap, cur.toList.drop n, by rw [List.length_map, hl], by rw [List.length_map, hl]; exact hn, hc, by rw [List.length_drop, Array.length_toList, hs, List.length_map, hl, Nat.mul_one], t, ?_⟩
  · obtain ⟨s, _, rfl⟩ := List.mem_map.1 hr
    rw [he]; rfl
  · rw [flat_T he, ← ht, List.take_append_drop]
    exact hb
theorem sort_own {P : Program} {F : FuncId} {enc : ByteArray → List Value} (he : ∀ s, enc s = [.string s]) (hS : ∀ (blk off cap : Nat) (ss : List (List UInt8)) (w : World), Holds encStr w blk off ss.toArray → blk < w.heap.size → ss.length < 4611686018427387904 → Calls P F #[.slice (some ⟨blk, off, none⟩) ss.length cap] w fun e w' => e = .returned (.tuple #[]) ∧ ∃ n os, w' = grow (putRow encStr (Sort.ahead w n) blk off (ss.mergeSort fun x y => decide (x ≤ y)).toArray) os)
    {w : World} {v : Value} {ts : List ByteArray} {B : Nat} (h : OwS 1 w v (ts.map enc) B) (hlen : ts.length ≤ 1000000) : Calls P F [v].toArray w fun e w' => ∃ x, e = .returned x ∧ x = .tuple #[] ∧ OwS 1 w' v ((sortT ts).map enc) B ∧ Chg B w w' := by
  have hlt := h.lt
  obtain ⟨cap, cur, t, rfl, h1, h2, h3, h4, h5⟩ := h.holds he
  refine (hS B 0 cap (ts.map bL) w h5 hlt (by simp; omega)).mono ?_
  rintro e w' ⟨rfl, n, os, rfl⟩
  have hg := grownBy_sorted (w := w) (g := B) (n := n) (os := os) ((ts.map bL).mergeSort fun x y => decide (x ≤ y)).toArray
  refine ⟨_, rfl, rfl, ?_, hg.os, hg.tape, hg.output, hg.size, fun k hk hne => hg.block k hk (by simpa using hne)⟩
  refine ows_cur he (heap_sorted _ h3) (by simp [putCells, h4]) (by simpa using h1) h2 ?_ (by simp [sortT_len])
  have hl : ((ts.map bL).mergeSort fun x y => decide (x ≤ y)).length = (ts.map bL).length := List.length_mergeSort _
  have := take_putCells cur ((ts.map bL).mergeSort fun x y => decide (x ≤ y)) (by rw [hl, List.length_map]; omega)
  rw [hl] at this
  rw [this]
  simp [sortT, Function.comp_def]
theorem once_own {P : Program} {F : FuncId} {enc : ByteArray → List Value} (he : ∀ s, enc s = [.string s]) (hS : ∀ (blk off cap : Nat) (zs : List (List UInt8)) (w : World), Holds encStr w blk off zs.toArray → zs.length ≤ 9223372036854775807 → zs.length ≤ cap → Calls P F #[.slice (some ⟨blk, off, none⟩) zs.length cap] w fun e w' => e = .returned (.slice (some ⟨blk, off, none⟩) (Lib.compact zs).length cap) ∧ ∃ q, w' = putRow encStr (Sort.ahead w q) blk off (Lib.compact zs ++ List.replicate (zs.length - (Lib.compact zs).length) []).toArray)
    {w : World} {v : Value} {ts : List ByteArray} {B : Nat} (h : OwS 1 w v (ts.map enc) B) (hlen : ts.length ≤ 1000000) : Calls P F [v].toArray w fun e w' => ∃ x, e = .returned x ∧ OwS 1 w' x ((onceT ts).map enc) B ∧ Chg B w w' := by
  have hlt := h.lt
  obtain ⟨cap, cur, t, rfl, h1, h2, h3, h4, h5⟩ := h.holds he
  have hle := Lib.compact_length_le (ts.map bL)
  rw [List.length_map] at hle
  refine (hS B 0 cap (ts.map bL) w h5 (by simp; omega) (by simpa using h1)).mono ?_
  rintro e w' ⟨rfl, q, rfl⟩
  refine ⟨_, rfl, ?_, ⟨rfl, rfl, rfl, by simp [putRow, mapBlock, Sort.ahead], fun k hk hne => ?_⟩⟩
  · have hb : (putRow encStr (Sort.ahead w q) B 0 (Lib.compact (ts.map bL) ++ List.replicate ((ts.map bL).length - (Lib.compact (ts.map bL)).length) []).toArray).heap[B]? = some (.cells (putCells encStr 0 (Lib.compact (ts.map bL) ++ List.replicate ((ts.map bL).length - (Lib.compact (ts.map bL)).length) []).toArray cur) t (0, 0)) := by
      simp [putRow, mapBlock, Sort.ahead, Array.getElem?_modify, h3, onCells]
    refine ows_cur he hb (by simp [putCells, h4]) (by omega) h2 ?_ (by simp [onceT])
    have hl : (Lib.compact (ts.map bL) ++ List.replicate ((ts.map bL).length - (Lib.compact (ts.map bL)).length) []).length = ts.length := by simp; omega
    have := take_putCells cur (Lib.compact (ts.map bL) ++ List.replicate ((ts.map bL).length - (Lib.compact (ts.map bL)).length) []) (by omega)
    rw [hl] at this
    have h6 : ∀ l : List Value, (l.take ts.length).take (Lib.compact (ts.map bL)).length = l.take (Lib.compact (ts.map bL)).length := fun l => by rw [List.take_take]; congr 1; omega
    rw [← h6, this, List.map_append, List.take_append_of_le_length (by simp), List.take_of_length_le (by simp)]
    simp [onceT, Function.comp_def]
  · simp [putRow, mapBlock, Sort.ahead, Array.getElem?_modify, Ne.symm hne]
/-- Nil, or a slice of one's own that is new since the base. -/
def NewW (s base : Nat) (rs : List (List Value)) (u : Value) (w : World) : Prop := (u = .slice none 0 0 ∧ rs = [] ∧ 0 < s) ∨ ∃ B, base ≤ B ∧ OwS s w u rs B
theorem NewW.below {s base : Nat} {rs : List (List Value)} {u : Value} {w w' : World} (h : NewW s base rs u w) (hb : Below w.heap.size w w') : NewW s base rs u w' := by
  rcases h with h | ⟨B, h1, h2⟩
  · exact .inl h
  · exact .inr ⟨B, h1, h2.below hb⟩
theorem NewW.le {s base n : Nat} {rs : List (List Value)} {u : Value} {w : World} (h : NewW s base rs u w) (hn : n ≤ base) : NewW s n rs u w := by
  rcases h with h | ⟨B, h1, h2⟩
  · exact .inl h
  · exact .inr ⟨B, Nat.le_trans hn h1, h2⟩
theorem NewW.rd {s base : Nat} {rs : List (List Value)} {u : Value} {w : World} (h : NewW s base rs u w) {L : List Nat} (hL : ∀ x ∈ L, x < base) : RdF s L w u rs := by
  rcases h with ⟨rfl, rfl, h0⟩ | ⟨B, h1, h2⟩
  · exact RdF.nil h0
  · exact h2.rd (fun hx => by have := hL B hx; omega)
theorem NewS.own {s base : Nat} {rs : List (List Value)} {u : Value} {w : World} (h : NewS s base rs u w) (hn : rs ≠ []) : ∃ B, base ≤ B ∧ OwS s w u rs B := by
  rcases h with ⟨_, h, _⟩ | ⟨B, sp, h1, rfl, h3, _⟩
  · exact absurd h hn
  · exact ⟨B, h1, h3.own⟩
theorem GrowB.from_base {B B' base : Nat} {w w' : World} (h : GrowB B B' w w') (hB : base ≤ B) (hs : base ≤ w.heap.size) : Below base w w' := ⟨h.os, h.tape, h.output, h.size, fun k hk => h.block k (by omega) (by omega)⟩
theorem sort_new {P : Program} {F : FuncId} {enc : ByteArray → List Value} (he : ∀ s, enc s = [.string s]) (hS : ∀ (blk off cap : Nat) (ss : List (List UInt8)) (w : World), Holds encStr w blk off ss.toArray → blk < w.heap.size → ss.length < 4611686018427387904 → Calls P F #[.slice (some ⟨blk, off, none⟩) ss.length cap] w fun e w' => e = .returned (.tuple #[]) ∧ ∃ n os, w' = grow (putRow encStr (Sort.ahead w n) blk off (ss.mergeSort fun x y => decide (x ≤ y)).toArray) os)
    (hN : ∀ (p : Option Addr) (cap : Nat) (w : World), Calls P F #[.slice p 0 cap] w fun e w' => e = .returned (.tuple #[]) ∧ w' = w)
    {w : World} {v : Value} {ts : List ByteArray} {base : Nat} (h : NewW 1 base (ts.map enc) v w) (hb : base ≤ w.heap.size) (hlen : ts.length ≤ 1000000) : Calls P F [v].toArray w fun e w' => ∃ x, e = .returned x ∧ NewW 1 base ((sortT ts).map enc) v w' ∧ Below base w w' := by
  rcases h with ⟨rfl, h, _⟩ | ⟨B, h1, h2⟩
  · have ht : ts = [] := by simpa using h
    subst ht
    exact (hN none 0 w).mono fun e w' ⟨h1, h2⟩ => ⟨_, h1, .inl ⟨rfl, by simp [sortT], by decide⟩, by rw [h2]; exact Below.refl _ _⟩
  · exact (sort_own he hS h2 hlen).mono fun e w' ⟨x, h3, _, h4, h5⟩ => ⟨x, h3, .inr ⟨B, h1, h4⟩, h5.from_base h1 hb⟩
theorem once_new {P : Program} {F : FuncId} {enc : ByteArray → List Value} (he : ∀ s, enc s = [.string s]) (hS : ∀ (blk off cap : Nat) (zs : List (List UInt8)) (w : World), Holds encStr w blk off zs.toArray → zs.length ≤ 9223372036854775807 → zs.length ≤ cap → Calls P F #[.slice (some ⟨blk, off, none⟩) zs.length cap] w fun e w' => e = .returned (.slice (some ⟨blk, off, none⟩) (Lib.compact zs).length cap) ∧ ∃ q, w' = putRow encStr (Sort.ahead w q) blk off (Lib.compact zs ++ List.replicate (zs.length - (Lib.compact zs).length) []).toArray)
    (hN : ∀ (p : Option Addr) (cap : Nat) (w : World), Calls P F #[.slice p 0 cap] w fun e w' => e = .returned (.slice p 0 cap) ∧ w' = w)
    {w : World} {v : Value} {ts : List ByteArray} {base : Nat} (h : NewW 1 base (ts.map enc) v w) (hb : base ≤ w.heap.size) (hlen : ts.length ≤ 1000000) : Calls P F [v].toArray w fun e w' => ∃ x, e = .returned x ∧ NewW 1 base ((onceT ts).map enc) x w' ∧ Below base w w' := by
  rcases h with ⟨rfl, h, _⟩ | ⟨B, h1, h2⟩
  · have ht : ts = [] := by simpa using h
    subst ht
    exact (hN none 0 w).mono fun e w' ⟨h1, h2⟩ => ⟨_, h1, .inl ⟨rfl, by simp [onceT, Lib.compact, Lib.compactUpTo], by decide⟩, by rw [h2]; exact Below.refl _ _⟩
  · exact (once_own he hS h2 hlen).mono fun e w' ⟨x, h3, h4, h5⟩ => ⟨x, h3, .inr ⟨B, h1, h4⟩, h5.from_base h1 hb⟩
section
variable {P : Program} {ops : Array Oper} {o : Oper} {N : Nat} {f : Fl} {w : World} {R : Value → World → Prop}
/-- A slice of two that is written out, of elements of one cell. -/
theorem dx_lit2 {t bytes : Nat} {x y : Operand} {V U : Value} (ho : o.op = .buildSlice t 2 #[(0, x), (1, y)]) (ht : apB P t 1 bytes = true) (hx : ev f x = some V) (hy : ev f y = some U) (hV : V.cells.toList = [V]) (hU : U.cells.toList = [U]) (hw : wantF ops o f = some true := by rfl) : DR P ops o N f w (NewO 1 w [[V], [U]]) := by
  have hV : V.cells = #[V] := Array.ext' hV
  have hU : U.cells = #[U] := Array.ext' hU
  obtain ⟨e, i, Z, hu, hi, hZ, hs, rfl, hzs⟩ := of_apB ht
  refine dx_lit (ps := [(0, V), (1, U)]) (rs := [[V], [U]]) ho hu hi hZ hs (by decide) (by simp [evl, hx, hy]) (by omega) ?_ (by simp) rfl (by unfold maxLen; omega) hw
  rw [if_neg (by decide)]
  have hl : ∀ c : Array Value, c.size = 2 → Instr.fill (fun k => some (k * 1, 1)) c [(0, V), (1, U)] = some #[V, U] := fun c hc => by
    obtain ⟨l⟩ := c
    match l, hc with
    | [a, b], _ => simp [Instr.fill, hV, hU]
  exact hl _ (by simp)
/-- A cell of an element of a slice of one's own, stored. -/
theorem dx_storeF {t s B k j o0 : Nat} {x y : Operand} {V v : Value} {rs : List (List Value)} {r : List Value} (ho : o.op = .store t x y) (ht : sizeB P t 1 = true) (hx : ev f x = some (.pointer (some ⟨B, o0, none⟩))) (hy : ev f y = some V) (hv : V.cells.toList = [V]) (h1 : V.oneCell' = true)
    (hr : OwS s w v rs B) (hk : k * s + j = o0) (hi : rs[k]? = some r) (hj : j < s) (hw : wantF ops o f = some true := by rfl) : DR P ops o N f w fun _ W => OwS s W v (rs.set k (r.set j V)) B ∧ Only B w W := by
  obtain ⟨h0, hrl, cap, sp, rfl, h2, h3, h4, h5⟩ := hr
  obtain ⟨hkl, hrk⟩ := List.getElem?_eq_some_iff.1 hi
  have hl : r.length = s := hrl r (List.mem_of_getElem? hi)
  have hlen : (k + 1) * s ≤ rs.flatten.length := by rw [flat_len hrl]; exact Nat.mul_le_mul_right _ hkl
  rw [Nat.succ_mul] at hlen
  have hf := flat_set hrl (r' := r.set j V) (by rw [List.length_set]; exact hl) hkl sp
  refine (dx_store (cs' := (rs.set k (r.set j V)).flatten ++ sp) (vs := [V]) ho ht hx hy hv (oc_cons h1 oc_nil) h5 rfl (by rw [List.length_append]; omega) ?_ hw).mono fun _ W h => ⟨⟨h0, fun r' hr' => ?_, cap, sp, by rw [List.length_set], by rw [List.length_set]; exact h2, h3, by rw [List.length_set]; exact h4, h.1⟩, h.2⟩
  · rw [← hf, ← hk]
    have hd : (rs.flatten ++ sp).drop (k * s) = r ++ (rs.flatten ++ sp).drop (k * s + s) := by
      have e1 : (rs.flatten ++ sp).drop (k * s) = ((rs.flatten ++ sp).drop (k * s)).take s ++ ((rs.flatten ++ sp).drop (k * s)).drop s := (List.take_append_drop _ _).symm
      have e2 : ((rs.flatten ++ sp).drop (k * s)).take s = r := by
        rw [List.drop_append_of_le_length (by omega), List.take_append_of_le_length (by rw [List.length_drop]; omega)]
        exact flat_row hrl hi
      rw [e1, e2, List.drop_drop]
    have hrs : r.set j V = r.take j ++ ([V] ++ r.drop (j + 1)) := by rw [List.set_eq_take_append_cons_drop, if_pos (by omega)]; rfl
    have e3 : (rs.flatten ++ sp).take (k * s + j) = (rs.flatten ++ sp).take (k * s) ++ r.take j := by
      rw [List.take_add, hd]
      congr 1
      exact List.take_append_of_le_length (by omega)
    have e4 : (rs.flatten ++ sp).drop (k * s + j + 1) = r.drop (j + 1) ++ (rs.flatten ++ sp).drop (k * s + s) := by
      rw [show k * s + j + 1 = k * s + (j + 1) by omega, ← List.drop_drop, hd, List.drop_append_of_le_length (by omega)]
    rw [e3, e4, hrs]
    simp [List.append_assoc]
  · rcases List.mem_or_eq_of_mem_set hr' with h | h
    · exact hrl r' h
    · rw [h, List.length_set]; exact hl
/-- An append to what is new. -/
theorem dx_apW {t s bytes base : Nat} {x y : Operand} {u v2 : Value} {rs news : List (List Value)} {L : List Nat} (ho : o.op = .call { callee := .builtin .append, args := #[x, y], argTypes := #[t, t] }) (ht : apB P t s bytes = true) (hx : ev f x = some u) (hy : ev f y = some v2)
    (h : NewW s base rs u w) (h2 : RdF s L w v2 news) (h1 : ∀ r ∈ news, ∀ u ∈ r, u.oneCell' = true) (hm : rs.length + news.length ≤ maxLen) (hby : (rs.length + news.length) * bytes ≤ 140737488355328) (hb : base ≤ w.heap.size) (hw : wantF ops o f = some true := by rfl) : DR P ops o N f w fun u' W => NewW s base (rs ++ news) u' W ∧ Below base w W := fun a ha => by
  rcases h with ⟨rfl, rfl, h0⟩ | ⟨B, hB, hO⟩
  · by_cases hn : news = []
    · subst hn
      obtain ⟨e, q, Z, hu, hi, hz, rfl, rfl, hzs⟩ := of_apB ht
      have hx := ha.ev hx
      have hy := ha.ev hy
      obtain ⟨_, hl2, a2, cap2, rfl, hd1, hd2, hd3, hd4⟩ := h2
      have hr0 : (Builtin.append_ #[t, t] o.type #[.slice none 0 0, .slice a2 0 cap2]).run P w = .ok (.slice none 0 0) w := by
        cases a2 with
        | none => simp [Builtin.append_, run_underlying hu, sizeOf, typeInfo, hi, Builtin.lenOf, Builtin.firstCells, storeCells]
        | some a2 => simp [Builtin.append_, run_underlying hu, sizeOf, typeInfo, hi, Builtin.lenOf, Builtin.firstCells, loadCells, loadCellsFrom, storeCells]
      refine Does.of_wp (wantF_of ha hw) fun K hK => ?_
      unfold Oper.wp execOp
      simp only [List.length_nil] at hy
      simp only [ho, resolve, invoke, builtin, Sem.run_bind, Sem.run_pure, Result.andThen_ok, List.map_toArray, List.map_cons, List.map_nil, hx, hy, hr0]
      exact hK _ _ ⟨.inl ⟨rfl, rfl, h0⟩, Below.refl _ _⟩
    · refine Does.mono (dx_apF (rs := []) ho ht hx hy (RdF.nil (L := L) h0) h2 hn hm hby hw a ha) fun v W ⟨k1, k2, k3⟩ => ⟨.inr ⟨_, hb, k1⟩, k2.mono hb⟩
  · exact Does.mono (dx_apO' ho ht hx hy hO h2 h1 hm hby hw a ha) fun v W ⟨B', k1, k2⟩ => ⟨.inr ⟨B', k2.le hB hb, k1⟩, k2.from_base hB hb⟩
/-- nil[:0] and nil[0:0]. -/
theorem dx_slNH {t s : Nat} {x y : Operand} {K : IntKind} (ho : o.op = .slice t x none (some y) none) (ht : sliceB P t s = true) (hx : ev f x = some (.slice none 0 0)) (hy : ev f y = some (.int K 0)) (hw : wantF ops o f = some true := by rfl) : DV P ops o N f w (.slice none 0 0) := fun a ha => by
  obtain ⟨e, hu, hs⟩ := of_sliceB ht
  have hx := ha.ev hx
  have hy := ha.ev hy
  cases hi : P.info? e with
  | none => rw [hi] at hs; cases hs
  | some q =>
    refine Does.pure (wantF_of ha hw) _ ?_ ⟨rfl, rfl⟩
    unfold execOp
    simp only [ho, Option.map_none, Option.map_some, hx, hy, Instr.sliceAt, Sem.run_bind, run_underlying hu, Result.andThen_ok, Instr.slice, Instr.sliceBounds, Instr.sliceBound, asIntOf, Sem.run_pure, sizeOf, typeInfo, run_program, hi]
    rw [if_pos (by decide)]
    exact rfl
/-- An append of zeros to nil: room for so many. -/
theorem dx_apZ0 {t tn s bytes : Nat} {K kn : IntKind} {x y : Operand} {j : Int} (m : Nat) (ho : o.op = .call { callee := .builtin .append, args := #[x, y], argTypes := #[t, tn] }) (ht : apB P t s bytes = true) (htn : P.underlying tn = some (.int kn)) (hs : 0 < s) (hx : ev f x = some (.slice none 0 0)) (hy : ev f y = some (.int K j)) (hj : j = (m : Int)) (hm0 : 0 < m) (hm : m ≤ 1000000) (hby : m * bytes ≤ 140737488355328) (hw : wantF ops o f = some true := by rfl) :
    DR P ops o N f w fun u W => ∃ c, u = .slice (some ⟨w.heap.size, 0, none⟩) m c ∧ m ≤ c ∧ OwS s W (.slice (some ⟨w.heap.size, 0, none⟩) 0 c) [] w.heap.size ∧ Below w.heap.size w W ∧ w.heap.size < W.heap.size := fun a ha => by
  subst hj
  obtain ⟨e, q, Z, hu, hi', hz, rfl, rfl, hzs⟩ := of_apB ht
  have hx := ha.ev hx
  have hy := ha.ev hy
  have hrun := Lib.run_append_nil_zeros (P := P) w t tn o.type e q Z K kn hu htn hi' hz m hm0 hs (by omega) (by omega)
  have hge : m ≤ grownCap w m 0 e := by have := grownCap_ge w m 0 e; omega
  refine Does.of_wp (wantF_of ha hw) fun K hK => ?_
  unfold Oper.wp execOp
  simp only [ho, resolve, invoke, builtin, Sem.run_bind, Sem.run_pure, Result.andThen_ok, List.map_toArray, List.map_cons, List.map_nil, hx, hy, hrun]
  refine hK _ _ ⟨_, rfl, hge, ⟨hs, by simp, grownCap w m 0 e, (Builtin.zeroCells Z.cells m ++ Builtin.zeroCells Z.cells (grownCap w m 0 e - m)).toList, by simp, by simp, grownCap_le_maxLen _ _ _ _ (by unfold maxLen; omega), ?_, e, ?_⟩, below_alloc (below_draws (Below.refl _ _) 1) _, ?_⟩
  · rw [Array.length_toList, Array.size_append, size_zeroCells, size_zeroCells, hzs, ← Nat.add_mul, List.length_nil, Nat.sub_zero]
    congr 1
    omega
  · rw [show w.heap.size = w.drew.heap.size from (World.size_drew w).symm, heap_alloc_new]
    simp
  · rw [World.size_alloc, World.size_drew]
    omega
end
end Go.Proofs.YtohnicmacmkapaaDoor
namespace Go.Proofs.YtohnicmacmkapaaDoor
open Go.RowKit
set_option linter.unusedVariables false
set_option linter.unusedSimpArgs false
/-- The steps, of which the one with number s is bound by rel alone. -/
def DStepsW (P : Program) (ops : Array Oper) (N : Nat) (w0 : World) (sd : List (Option Tmp × VS)) (dl : List (List Nat)) (f : Fl) (s : Nat) (rel : World → World → Prop) : Nat → List Oper → Prop
  | _, [] => True
  | k, o :: l => (∀ W, Below w0.heap.size w0 W → DStep P ops o N W sd (fun v W' => (if k = s then rel W W' else Below W.heap.size W W') ∧ okAt sd k v W') ((dl[k]?).getD []) f) ∧ DStepsW P ops N w0 sd dl f s rel (k + 1) l
section
variable {P : Program} {N : Nat} {sd : List (Option Tmp × VS)} {dl : List (List Nat)}
theorem DStepsW.cons {ops : Array Oper} {w0 : World} {f : Fl} {k s : Nat} {rel : World → World → Prop} {o : Oper} {l : List Oper} (hk : k ≠ s) (h : ∀ W, Below w0.heap.size w0 W → DStep P ops o N W sd (fun v W' => Below W.heap.size W W' ∧ okAt sd k v W') ((dl[k]?).getD []) f) (hl : DStepsW P ops N w0 sd dl f s rel (k + 1) l) : DStepsW P ops N w0 sd dl f s rel k (o :: l) := ⟨by simp only [if_neg hk]; exact h, hl⟩
theorem DStepsW.hit {ops : Array Oper} {w0 : World} {f : Fl} {s : Nat} {rel : World → World → Prop} {o : Oper} {l : List Oper} (h : ∀ W, Below w0.heap.size w0 W → DStep P ops o N W sd (fun v W' => rel W W' ∧ okAt sd s v W') ((dl[s]?).getD []) f) (hl : DStepsW P ops N w0 sd dl f s rel (s + 1) l) : DStepsW P ops N w0 sd dl f s rel s (o :: l) := ⟨by simp only [if_true]; exact h, hl⟩
theorem monoR_set {rel : World → World → Prop} {s : Nat} {x : Option Tmp × VS} (h : VS.monoR rel (sd.set s x)) {j : Nat} (hj : j ≠ s) {d : Option Tmp} {p : Value → World → Prop} (hp : sd[j]? = some (d, .by p)) : ∀ u W W', rel W W' → p u W → p u W' :=
  monoR_at h (j := j) (d := d) (by rw [List.getElem?_set_ne (fun e => hj e.symm)]; exact hp)
/-- The rule. -/
theorem WC.drawW {id : Nat} {f : Fl} {w : World} {Q : Exit → Act → World → Prop} (m s : Nat) (rel : World → World → Prop) {ops : List Oper} (sd : List (Option Tmp × VS)) (dl : List (List Nat)) (hm : P.follows .mixedOrders = true) (hb : ordB .any ops.toArray = true) (hbp : ordB .any (ops.take m).toArray = true) (ht : tailB .any ops.toArray (ops.take m).length = true) (hdl : (ops.take m).map (depsOf .any) = dl)
    (hds : (ops.take m).map (·.dst) = sd.map (·.1)) (hN : inN N sd = true) (hmono : VS.mono sd) (hrel : VS.monoR rel (sd.set s (none, .is undef))) (hbr : ∀ W W', Below w.heap.size w W → rel W W' → Below w.heap.size w W') (hst : DStepsW P (ops.take m).toArray N w sd dl f s rel 0 (ops.take m))
    (hend : ∀ W, Below w.heap.size w W → DEnd (fun f W => WL P ops.toArray Q N (ops.drop m) f W) W sd f) : WC P N (.region id ops.toArray true) Q f w := fun a ha => by
  obtain ⟨pre, hpre⟩ : ∃ pre, pre = ops.take m := ⟨_, rfl⟩
  obtain ⟨suf, hsuf⟩ : ∃ suf, suf = ops.drop m := ⟨_, rfl⟩
  have hops : pre ++ suf = ops := by rw [hpre, hsuf]; exact List.take_append_drop m ops
  rw [← hpre] at hbp ht hdl hds hst
  rw [← hsuf] at hend
  clear hpre hsuf
  subst hops
  have hlen : dl.length = sd.length := by rw [← hdl, List.length_map, ← List.length_map (f := (·.dst)), hds, List.length_map]
  have hpl : pre.length = dl.length := by rw [← hdl, List.length_map]
  refine wp_region_any hm ?_
  have hrep : Array.replicate (pre ++ suf).toArray.size false = Array.replicate pre.toArray.size false ++ Array.replicate suf.length false := by
    simp [Array.replicate_append_replicate]
  rw [hrep]
  have hsz : (pre ++ suf).toArray.size = pre.toArray.size + suf.length := by simp
  rw [hsz]
  refine pre_tail (pre := pre.toArray) (suf := suf) hb hbp (by simp) (by simpa using ht) pre.toArray.size _ (by simp) (fun j hj => by simp [Array.getD_eq_getD_getElem?, Array.getElem?_replicate] at hj; split at hj <;> simp_all) a w.drew ?_
  have hda : ∀ j, depsAt .any pre.toArray j = (dl[j]?).getD [] := by
    intro j
    subst hdl
    simp only [depsAt, List.getElem?_map, List.getElem?_toArray]
  have hF0 : ∀ j, (Array.replicate pre.toArray.size false).getD j false = true → False := fun j hj => by simp [Array.getD_eq_getD_getElem?, Array.getElem?_replicate] at hj; split at hj <;> simp_all
  refine wpAny_facts hbp a (fun _ W => Below w.heap.size w W) (fun j g W => okAt sd j (g j) W) (fun i _ W W' => if i = s then rel W W' else Below W.heap.size W W') ?_ ?_ ?_ pre.toArray.size _ (fun _ => undef) a w.drew (by simp) (by
      have := List.countP_le_length (p := fun b => !b) (l := (Array.replicate pre.toArray.size false).toList)
      simpa using this) (fun j hj => (hF0 j hj).elim) (Agrees.start fun j hj => hF0 j hj) (below_draws (Below.refl _ _) 1) (fun j hj => (hF0 j hj).elim)
  · intro i g W W' j g' hB hne h
    unfold okAt at h ⊢
    cases hs : sd[j]? with
    | none => trivial
    | some p =>
      obtain ⟨d, s'⟩ := p
      rw [hs] at h
      cases s' with
      | is v => exact h
      | «by» p =>
        by_cases hi : i = s
        · rw [if_pos hi] at hB
          exact monoR_set hrel (fun e => hne (e.trans hi.symm)) hs _ W W' hB h
        · rw [if_neg hi] at hB
          exact mono_at hmono hs _ W W' hB h
  · intro i o hoi L g W _ _ hG hd
    have key : ∀ (l : List Oper) (k : Nat), DStepsW P pre.toArray N w sd dl f s rel k l → ∀ j o, l[j]? = some o → ∀ W, Below w.heap.size w W → DStep P pre.toArray o N W sd (fun v W' => (if k + j = s then rel W W' else Below W.heap.size W W') ∧ okAt sd (k + j) v W') ((dl[k + j]?).getD []) f := by
      intro l
      induction l with
      | nil => intro k _ j o h; simp at h
      | cons x l ih =>
        intro k hs j o h
        cases j with
        | zero =>
          simp only [List.getElem?_cons_zero, Option.some.injEq] at h
          subst h
          exact hs.1
        | succ j =>
          have := ih (k + 1) hs.2 j o (by simpa using h)
          rw [show k + (j + 1) = k + 1 + j by omega]
          exact this
    have hk := key pre 0 hst i o (by simpa using hoi) W hG
    rw [Nat.zero_add] at hk
    have hdo : depsOf .any o = (dl[i]?).getD [] := by rw [← hda i, depsAt_eq hoi]
    rw [hdo] at hd ⊢
    rw [putL_eq (ds := sd.map (·.1)) (by simpa using hds)]
    have hH : HypL (fun j g w => okAt sd j (g j) w) dl g W ((dl[i]?).getD []) := HypL.of _ fun j hj => by have := hd j hj; rwa [hda j] at this
    refine (DStep.to hN _ f a hk ha hH).mono fun v W' h => ⟨h.1, ?_, ?_⟩
    · by_cases hi : i = s
      · exact hbr _ _ hG (by have := h.1; rwa [if_pos hi] at this)
      · have h1 := h.1
        rw [if_neg hi] at h1
        exact hG.trans (h1.mono hG.size)
    · simp only [restr_self]
      rw [show upd g i v i = v by simp [upd]]
      exact h.2
  · intro L g W hL hG hd
    rw [putL_eq (ds := sd.map (·.1)) (by simpa using hds)]
    have hH : HypL (fun j g w => okAt sd j (g j) w) dl g W (List.range' 0 sd.length) := HypL.of _ fun j hj => by
      have hj' : j < pre.toArray.size := by
        simp [List.mem_range'] at hj
        simp
        omega
      have := hd j hj'
      rwa [hda j] at this
    have hfin := DEnd.to (Q := fun a W => wpList P (pre ++ suf).toArray Q suf a W) hN (fun f h a ha => h a ha) sd 0 f a (by simp) (hend W hG) ha hH
    show wpOps P (pre ++ suf).toArray Q (List.range' pre.toArray.size suf.length) _ _
    rw [wpOps_eq_wpList suf pre.toArray.size (fun j => by simp [List.getElem?_append_right])]
    rw [List.range_eq_range', show pre.toArray.size = sd.length by simp; omega]
    exact hfin
end
/-- Rows read at a base: what is said of another world is nothing. -/
def RdZ (s : Nat) (L : List Nat) (w0 : World) (v : Value) (rs : List (List Value)) (w : World) : Prop := RdF s L w0 v rs
theorem RdZ.below {s : Nat} {L : List Nat} {w0 w w' : World} {v : Value} {rs : List (List Value)} (h : RdZ s L w0 v rs w) (hb : Below w.heap.size w w') : RdZ s L w0 v rs w' := h
/-- New things only, or a write behind the first rows of a block that is new since the base. -/
def KeepR (s base n : Nat) (w w' : World) : Prop := Below w.heap.size w w' ∨ ∃ B R R', base ≤ B ∧ base ≤ w.heap.size ∧ Only B w w' ∧ RwB s w B R ∧ RwB s w' B R' ∧ R.length = R'.length ∧ R.take n = R'.take n ∧ n < R.length ∧ 0 < n
theorem KeepR.base {s base n : Nat} {w0 w w' : World} (h : KeepR s base n w w') (hs : base ≤ w.heap.size) (hb : Below base w0 w) : Below base w0 w' := by
  rcases h with h | ⟨B, R, R', h1, h0, h2, _⟩
  · exact hb.trans (h.mono hs)
  · exact hb.trans ((GrowB.of_only h2).from_base h1 h0)
theorem RdZ.keep {s s' base n : Nat} {L : List Nat} {w0 w w' : World} {v : Value} {rs : List (List Value)} (h : RdZ s L w0 v rs w) (hk : KeepR s' base n w w') : RdZ s L w0 v rs w' := h
theorem rwb_same {s : Nat} {w : World} {B : Nat} {R R' : List (List Value)} (h : RwB s w B R) (h' : RwB s w B R') : R = R' := by
  obtain ⟨h0, hr, h1, t, hb⟩ := h
  obtain ⟨h2, hr', h3, t', hb'⟩ := h'
  rw [hb] at hb'
  have e1 : R.flatten = R'.flatten := by simpa using (Obj.cells.inj (Option.some.inj hb')).1
  clear hb hb' h1 h2 h3
  induction R generalizing R' with
  | nil =>
    cases R' with
    | nil => rfl
    | cons r l =>
      have := congrArg List.length e1
      rw [List.flatten_cons, List.length_append, hr' r (.head _)] at this
      simp at this
      omega
  | cons r l ih =>
    cases R' with
    | nil =>
      have := congrArg List.length e1
      rw [List.flatten_cons, List.length_append, hr r (.head _)] at this
      simp at this
      omega
    | cons r' l' =>
      rw [List.flatten_cons, List.flatten_cons] at e1
      obtain ⟨e2, e3⟩ := List.append_inj e1 (by rw [hr r (.head _), hr' r' (.head _)])
      rw [e2, ih (fun x hx => hr x (.tail _ hx)) (fun x hx => hr' x (.tail _ hx)) e3]
theorem NewS.keep {s base n : Nat} {rs : List (List Value)} {u : Value} {w w' : World} (h : NewS s base rs u w) (hk : KeepR s base n w w') (hn : rs.length ≤ n) : NewS s base rs u w' := by
  rcases hk with hk | ⟨B, R, R', h1, h0, h2, h3, h4, h5, h6, h7, h8⟩
  · exact h.below hk
  · rcases h with h | ⟨C, sp, k1, k2, k3, k4⟩
    · exact .inl h
    · by_cases e : C = B
      · subst e
        obtain rfl := rwb_same k3 h3
        have e2 : R'.take rs.length = rs := by
          have := congrArg (List.take rs.length) h6
          rw [List.take_take, List.take_take, Nat.min_eq_left hn, List.take_append_of_le_length (Nat.le_refl _), List.take_length] at this
          exact this.symm
        refine .inr ⟨C, R'.drop rs.length, k1, ?_, ?_, fun hr => ?_⟩
        · rw [k2, h5]
          congr 1
          rw [← List.take_append_drop rs.length R', e2]
          simp
        · have := List.take_append_drop rs.length R'
          rw [e2] at this
          rw [this]
          exact h4
        · subst hr
          have := k4 rfl
          subst this
          simp at h7
      · exact .inr ⟨C, sp, k1, k2, k3.other h2 e, k4⟩
theorem NewE.keep {s base n : Nat} {u : Value} {w w' : World} (h : NewE s base u w) (hk : KeepR s base n w w') : NewE s base u w' := by
  rcases hk with hk | ⟨B, R, R', h1, h0, h2, h3, h4, h5, h6, h7, h8⟩
  · exact h.below hk
  · obtain ⟨C, k1, rfl, k3⟩ := h
    by_cases e : C = B
    · subst e
      obtain ⟨sp, q1, q2⟩ := k3.open
      have e1 : sp = [] := by
        have := congrArg (fun v : Value => match v with | .slice _ _ c => c | _ => 0) q1
        simp at this
        exact List.length_eq_zero_iff.1 this.symm
      subst e1
      obtain rfl := rwb_same h3 q2
      simp at h7
    · exact ⟨C, k1, rfl, k3.other h2 e⟩
section
variable {P : Program} {ops : Array Oper} {o : Oper} {N : Nat} {f : Fl} {w : World}
/-- An append of one row to what the region has made. -/
theorem dx_apR {t s bytes base : Nat} {x y : Operand} {u v2 : Value} {rs : List (List Value)} {row : List Value} {L : List Nat} (ho : o.op = .call { callee := .builtin .append, args := #[x, y], argTypes := #[t, t] }) (ht : apB P t s bytes = true) (hx : ev f x = some u) (hy : ev f y = some v2)
    (h : NewS s base rs u w) (h2 : RdF s L w v2 [row]) (h1 : ∀ u ∈ row, u.oneCell' = true) (hm : rs.length + 1 ≤ maxLen) (hby : (rs.length + 1) * bytes ≤ 140737488355328) (hb : base ≤ w.heap.size) {n : Nat} (hn : rs.length ≤ n) (hn1 : 0 < rs.length → n = rs.length) (hw : wantF ops o f = some true := by rfl) : DR P ops o N f w fun u' W => KeepR s base n w W ∧ NewW s base (rs ++ [row]) u' W := fun a ha => by
  have hoc : ∀ r ∈ [row], ∀ u ∈ r, u.oneCell' = true := fun r hr => by rw [List.mem_singleton.1 hr]; exact h1
  rcases h with ⟨rfl, rfl, h0⟩ | ⟨B, sp, hB, rfl, hR, h4⟩
  · exact Does.mono (dx_apF (rs := []) ho ht hx hy (RdF.nil (L := L) h0) h2 (by simp) hm hby hw a ha) fun v W ⟨k1, k2, k3⟩ => ⟨.inl k2, .inr ⟨_, hb, k1⟩⟩
  · by_cases hsp : sp = []
    · subst hsp
      have hx' : ev f x = some (.slice (some ⟨B, 0, none⟩) rs.length rs.length) := by rw [hx]; simp
      have hrd : RdF s [] w (.slice (some ⟨B, 0, none⟩) rs.length rs.length) rs := by
        have := hR.rd (L := []) (vs := rs) (sp := []) (by simp)
        simpa using this
      exact Does.mono (dx_apF (rs := rs) (L := []) ho ht hx' hy hrd (h2.less (by simp)) (by simp) hm hby hw a ha) fun v W ⟨k1, k2, k3⟩ => ⟨.inl k2, .inr ⟨_, hb, k1⟩⟩
    · have hrs : rs ≠ [] := fun e => hsp (h4 e)
      have hspl := List.length_pos_iff.2 hsp
      have hrl := List.length_pos_iff.2 hrs
      have hnn := hn1 hrl
      refine Does.mono (dx_apV (m := 1) ho ht hx hy hR h2 hoc rfl (by rw [List.length_append]; omega) hw a ha) fun v W ⟨k1, k2, k3⟩ => ?_
      have et : (rs ++ sp).take rs.length = rs := by rw [List.take_append_of_le_length (Nat.le_refl _), List.take_length]
      have ed : (rs ++ sp).drop (rs.length + 1) = sp.drop 1 := by rw [List.drop_append]; simp
      rw [et, ed] at k2
      have elen : (rs ++ sp).length = (rs ++ ([row] ++ sp.drop 1)).length := by simp; omega
      refine ⟨.inr ⟨B, _, _, hB, hb, k3, hR, k2, elen, by rw [hnn, et, List.take_append_of_le_length (Nat.le_refl _), List.take_length], by rw [List.length_append]; omega, by omega⟩, .inr ⟨B, hB, ?_⟩⟩
      rw [k1, elen, ← List.append_assoc]
      rw [← List.append_assoc] at k2
      have := k2.own
      simpa using this
/-- x[:k] and x[k:] of rows that are read. -/
theorem dx_rdH {t s : Nat} {x y : Operand} {K : IntKind} {v : Value} {rs : List (List Value)} {L : List Nat} {w0 : World} {i : Int} (k : Nat) (ho : o.op = .slice t x none (some y) none) (ht : sliceB P t s = true) (hx : ev f x = some v) (hy : ev f y = some (.int K i)) (hi : i = (k : Int)) (hr : RdF s L w0 v rs) (hk : k ≤ rs.length) (hw : wantF ops o f = some true := by rfl) : DR P ops o N f w fun u W => w = W ∧ RdZ s L w0 u (rs.take k) W := fun a ha => by
  subst hi
  obtain ⟨h0, hl, ad, cap, rfl, h2, h3, h4, h5⟩ := hr
  have htl : (rs.take k).length = k := by rw [List.length_take]; omega
  cases ad with
  | none =>
    have hc := h4 rfl
    subst hc
    have e1 : rs.length = 0 := by omega
    have e2 := List.length_eq_zero_iff.1 e1
    subst e2
    have e3 : k = 0 := by simpa using hk
    subst e3
    exact Does.mono (dx_slNH ho ht hx hy hw a ha) fun u W ⟨q1, q2⟩ => ⟨q2.symm, by rw [q1]; exact RdF.nil h0⟩
  | some b =>
    obtain ⟨B, o0, sp⟩ := b
    have hgo : DV P ops o N f w (.slice (some ⟨B, o0, sp⟩) k cap) := fun a ha => by
      obtain ⟨e, hu, hs⟩ := of_sliceB ht
      have hx := ha.ev hx
      have hy := ha.ev hy
      cases hi : P.info? e with
      | none => rw [hi] at hs; cases hs
      | some q =>
        have hq : q.size = s := by simpa [hi] using hs
        refine Does.pure (wantF_of ha hw) _ ?_ ⟨rfl, rfl⟩
        have h1 : ((k : Int) ≤ (cap : Int)) := by omega
        have h3 : (0 : Int) ≤ (k : Int) := by omega
        unfold execOp
        simp only [ho, Option.map_none, Option.map_some, hx, hy, Instr.sliceAt, Sem.run_bind, run_underlying hu, Result.andThen_ok, Instr.slice, Instr.sliceBounds, Instr.sliceBound, asIntOf, Sem.run_pure, sizeOf, typeInfo, run_program, hi]
        simp [h1, h3, hq, addr_at, Addr.add]
    refine Does.mono (hgo a ha) fun u W ⟨q1, q2⟩ => ⟨q2.symm, ?_⟩
    rw [q1]
    refine ⟨h0, fun r hr => hl r (List.mem_of_mem_take hr), _, cap, by rw [htl], by omega, h3, (fun h => by cases h), fun hne => ?_⟩
    obtain ⟨X, o1, e, hX, hc⟩ := h5 (fun e => hne (by rw [e, List.take_nil]))
    refine ⟨X, o1, e, hX, ?_⟩
    have := range_part hc 0 (k * s)
    rw [Nat.add_zero, List.drop_zero, flat_take k hl] at this
    exact this
theorem dx_rdL {t s : Nat} {x y : Operand} {K : IntKind} {v : Value} {rs : List (List Value)} {L : List Nat} {w0 : World} {i : Int} (l : Nat) (ho : o.op = .slice t x (some y) none none) (ht : sliceB P t s = true) (hx : ev f x = some v) (hy : ev f y = some (.int K i)) (hi : i = (l : Int)) (hr : RdF s L w0 v rs) (hk : l ≤ rs.length) (hw : wantF ops o f = some true := by rfl) : DR P ops o N f w fun u W => w = W ∧ RdZ s L w0 u (rs.drop l) W := fun a ha => by
  subst hi
  obtain ⟨h0, hl, ad, cap, rfl, h2, h3, h4, h5⟩ := hr
  have htl : (rs.drop l).length = rs.length - l := List.length_drop
  cases ad with
  | none =>
    have hc := h4 rfl
    subst hc
    have e1 : rs.length = 0 := by omega
    have e2 := List.length_eq_zero_iff.1 e1
    subst e2
    have e3 : l = 0 := by simpa using hk
    subst e3
    exact Does.mono (dx_slN ho ht hx hy hw a ha) fun u W ⟨q1, q2⟩ => ⟨q2.symm, by rw [q1]; exact RdF.nil h0⟩
  | some b =>
    obtain ⟨B, o0, sp⟩ := b
    have hgo : DV P ops o N f w (.slice (some (if cap = l then ⟨B, o0, sp⟩ else if l * s = 0 then ⟨B, o0, sp⟩ else ⟨B, o0 + l * s, none⟩)) (rs.length - l) (cap - l)) := fun a ha => by
      obtain ⟨e, hu, hs⟩ := of_sliceB ht
      have hx := ha.ev hx
      have hy := ha.ev hy
      cases hi : P.info? e with
      | none => rw [hi] at hs; cases hs
      | some q =>
        have hq : q.size = s := by simpa [hi] using hs
        refine Does.pure (wantF_of ha hw) _ ?_ ⟨rfl, rfl⟩
        have h1 : ((l : Int) ≤ (rs.length : Int)) := by omega
        have h2' : ((rs.length : Int) ≤ (cap : Int)) := by omega
        have h3 : (0 : Int) ≤ (l : Int) := by omega
        unfold execOp
        simp only [ho, Option.map_none, Option.map_some, hx, hy, Instr.sliceAt, Sem.run_bind, run_underlying hu, Result.andThen_ok, Instr.slice, Instr.sliceBounds, Instr.sliceBound, asIntOf, Sem.run_pure, sizeOf, typeInfo, run_program, hi]
        simp [h1, h2', h3, hq, addr_at, Addr.add, hk]
        split
        · rfl
        · rfl
    refine Does.mono (hgo a ha) fun u W ⟨q1, q2⟩ => ⟨q2.symm, ?_⟩
    rw [q1]
    refine ⟨h0, fun r hr => hl r (List.mem_of_mem_drop hr), _, cap - l, by rw [htl], by omega, by omega, (fun h => by cases h), fun hne => ?_⟩
    have hlt : l < rs.length := by
      rcases Nat.lt_or_ge l rs.length with h | h
      · exact h
      · exact absurd (List.drop_eq_nil_of_le h) hne
    obtain ⟨X, o2, e, hX, hc⟩ := h5 (fun e => hne (by rw [e, List.drop_nil]))
    cases e
    refine ⟨_, o0 + l * s, ?_, hX, ?_⟩
    · rw [if_neg (by omega)]
      split
      · rename_i hz
        rw [hz]
        rfl
      · rfl
    · have := range_part hc (l * s) (rs.flatten.length)
      rw [List.take_of_length_le (by rw [List.length_drop]; omega), flat_drop l hl] at this
      exact this
end
end Go.Proofs.YtohnicmacmkapaaDoor
namespace Go.Proofs.YtohnicmacmkapaaDoor
open Go.RowKit
set_option linter.unusedVariables false
set_option linter.unusedSimpArgs false
section
variable {P : Program} {ops : Array Oper} {md : Region.Mode}
/-- The law of XOrd, where what waits for one is not asked to bear it. G holds throughout, said of which operations have run; what is shown of an operation (F) bears what others do to the world (R). -/
theorem wpAny_factsD {Q : Exit → Act → World → Prop} (hb : ordB md ops = true) (a : Act) (G : (Nat → Bool) → World → Prop) (F : Facts) (R : Nat → (Nat → Value) → World → World → Prop)
    (hF : ∀ i f w w' j g, R i f w w' → j ≠ i → i ∉ depsAt md ops j → F j g w → F j g w')
    (hstep : ∀ i o, ops[i]? = some o → ∀ L f w, L i = false → (∀ j, i ∈ depsAt md ops j → L j = false) → G L w → (∀ j ∈ depsOf md o, F j (restr f (j :: depsAt md ops j)) w) →
      Does P ops o (putDeps ops f (depsOf md o) a) w fun v w' => R i (restr f (depsOf md o)) w w' ∧ G (upd L i true) w' ∧ F i (restr (upd f i v) (i :: depsOf md o)) w')
    (hend : ∀ L f w, (∀ j, L j = decide (j < ops.size)) → G L w → (∀ j, j < ops.size → F j (restr f (j :: depsAt md ops j)) w) → Q .normal (putDeps ops f (List.range ops.size) a) w) :
    ∀ (fuel : Nat) (listed : Array Bool) (f : Nat → Value) (a' : Act) (w : World), listed.size = ops.size → (listed.toList.countP (fun b => !b) ≤ fuel) →
      (∀ j, listed.getD j false = true → ∀ k ∈ depsAt md ops j, listed.getD k false = true) →
      Agrees ops (fun j => listed.getD j false = true) f a a' → G (fun j => listed.getD j false) w → (∀ j, listed.getD j false = true → F j (restr f (j :: depsAt md ops j)) w) → wpAny P md ops Q fuel listed a' w := by
  have ho := ordB_own hb
  have fin : ∀ (listed : Array Bool) (f : Nat → Value) (a' : Act) (w : World), listed.size = ops.size → Region.ready md ops listed = [] →
      Agrees ops (fun j => listed.getD j false = true) f a a' → G (fun j => listed.getD j false) w → (∀ j, listed.getD j false = true → F j (restr f (j :: depsAt md ops j)) w) → Q .normal a' w := by
    intro listed f a' w hsz hr hag hg hf
    have hl := all_listed hb hsz hr
    have hout : ∀ j, listed.getD j false = true → j < ops.size := by
      intro j h
      rcases Nat.lt_or_ge j ops.size with h' | h'
      · exact h'
      · simp [Array.getElem?_eq_none (by omega : listed.size ≤ j)] at h
    have e : a' = putDeps ops f (List.range ops.size) a := by
      refine hag.unique ((Agrees.of ho f a (List.range ops.size)).congr (fun j => ?_) (fun _ _ => rfl))
      rw [List.mem_range]
      exact ⟨hl j, hout j⟩
    rw [e]
    refine hend _ f w (fun j => ?_) hg fun j hj => hf j (hl j hj)
    by_cases hj : j < ops.size
    · rw [hl j hj]; simp [hj]
    · have : ¬ listed.getD j false = true := fun h => hj (hout j h)
      rw [Bool.not_eq_true] at this
      rw [this]; simp [hj]
  intro fuel
  induction fuel with
  | zero =>
    intro listed f a' w hsz hc hcl hag hg hf
    have hr : Region.ready md ops listed = [] := by
      rw [List.eq_nil_iff_forall_not_mem]
      intro j hj
      obtain ⟨h0, o, hoj, _⟩ := mem_ready.1 hj
      have hjs : j < ops.size := (Array.getElem?_eq_some_iff.1 hoj).1
      have hc0 : listed.toList.countP (fun b => !b) = 0 := by omega
      rw [List.countP_eq_zero] at hc0
      have h1 := hc0 listed[j] (by simp)
      rw [Array.getD_eq_getD_getElem?, Array.getElem?_eq_getElem (by omega)] at h0
      simp only [Option.getD_some] at h0
      rw [h0] at h1
      exact h1 rfl
    exact ⟨hr, fin listed f a' w hsz hr hag hg hf⟩
  | succ fuel ih =>
    intro listed f a' w hsz hc hcl hag hg hf
    refine ⟨fun hr => fin listed f a' w hsz hr hag hg hf, fun i hi => ?_⟩
    obtain ⟨h0, o, hoi, hdep⟩ := mem_ready.1 hi
    have his : i < ops.size := (Array.getElem?_eq_some_iff.1 hoi).1
    obtain ⟨hsel, hlt, hlook⟩ := ordB_deps hb hoi
    have hdl : ∀ j ∈ depsOf md o, listed.getD j false = true := by
      intro j hj
      obtain ⟨e, he, rfl⟩ := List.mem_map.1 hj
      obtain ⟨he1, he2⟩ := List.mem_filter.1 he
      exact hdep e (by simpa using he1) he2
    have hun : ¬ listed.getD i false = true := by
      intro h
      rw [Array.getD_eq_getD_getElem?, Array.getElem?_eq_getElem (by omega)] at h0 h
      simp only [Option.getD_some] at h0 h
      rw [h0] at h
      cases h
    have hA := Agrees.of ho f a (depsOf md o)
    have hdst : o.dst = dstAt ops i := by simp [dstAt, hoi]
    have hset : ∀ j, (listed.setIfInBounds i true).getD j false = upd (fun j => listed.getD j false) i true j := by
      intro j
      unfold upd
      by_cases e : j = i
      · subst e
        simp [Array.getD_eq_getD_getElem?, hsz, his]
      · rw [getD_set_ne false (fun h => e h.symm), if_neg e]
    refine Does.wpOp hoi hsel (a := putDeps ops f (depsOf md o) a) (by rw [hag.size, hA.size]) (fun t ht => ?_)
      (hstep i o hoi (fun j => listed.getD j false) f w (by simpa using hun) (fun j hj => by
        rw [← Bool.not_eq_true]
        exact fun h => hun (hcl j h i hj)) hg fun j hj => hf j (hdl j hj)) fun v w' hR => ?_
    · by_cases hts : t < a.tmps.size
      · by_cases e : ∃ j, dstAt ops j = some t
        · obtain ⟨j, hd⟩ := e
          have hj' : j < ops.size := by
            rcases Nat.lt_or_ge j ops.size with h | h
            · exact h
            · simp [dstAt, Array.getElem?_eq_none h] at hd
          have hl := hlook j t hj' hd
          by_cases hjd : j ∈ depsOf md o
          · rw [hag.put j t (hdl j hjd) hd hts, hA.put j t hjd hd hts]
          · have hjl : ¬ listed.getD j false = true := by
              intro hjl
              rcases hl.1 ht with h | h | h
              · exact hun (h ▸ hjl)
              · exact hjd h
              · exact hun (hcl j hjl i h)
            rw [hag.same t (fun k hk hkd => hjl (ho k j t hkd hd ▸ hk)), hA.same t (fun k hk hkd => hjd (ho k j t hkd hd ▸ hk))]
        · have hn : ∀ j, dstAt ops j ≠ some t := fun j hj => e ⟨j, hj⟩
          rw [hag.same t (fun j _ => hn j), hA.same t (fun j _ => hn j)]
      · rw [Array.getElem?_eq_none (by rw [hag.size]; exact Nat.le_of_not_lt hts), Array.getElem?_eq_none (by rw [hA.size]; exact Nat.le_of_not_lt hts)]
    · obtain ⟨hR1, hR3, hR2⟩ := hR
      have hset' : ∀ j, (listed.setIfInBounds i true).getD j false = true ↔ (j = i ∨ listed.getD j false = true) := by
        intro j
        rw [hset j]
        unfold upd
        by_cases e : j = i <;> simp [e]
      rw [hdst]
      refine ih (listed.setIfInBounds i true) (upd f i v) _ w' (by simp [hsz]) ?_ ?_ ?_ (by rw [show (fun j => (listed.setIfInBounds i true).getD j false) = upd (fun j => listed.getD j false) i true from funext hset]; exact hR3) ?_
      · have hc2 : (listed.setIfInBounds i true).toList.countP (fun b => !b) + 1 ≤ listed.toList.countP (fun b => !b) := by
          rw [Array.toList_setIfInBounds]
          have hlen : i < listed.toList.length := by simpa [hsz] using his
          have hli : listed.toList[i] = false := by
            rw [Array.getD_eq_getD_getElem?, Array.getElem?_eq_getElem (by omega)] at h0
            simpa using h0
          rw [List.countP_set hlen, hli]
          have : 0 < listed.toList.countP (fun b => !b) := List.countP_pos_iff.2 ⟨false, by rw [← hli]; exact List.getElem_mem _, rfl⟩
          simp only [Bool.not_false, Bool.not_true, if_true, Bool.false_eq_true, if_false]
          omega
        omega
      · intro j hj k hk
        rw [hset'] at hj ⊢
        rcases hj with rfl | hj
        · rw [depsAt_eq hoi] at hk
          exact .inr (hdl k hk)
        · exact .inr (hcl j hj k hk)
      · exact hag.step ho i v hset' (fun j hji _ => by simp [upd, hji]) (by simp [upd])
      · intro j hj
        rw [hset'] at hj
        by_cases e : j = i
        · subst e
          rw [depsAt_eq hoi]
          exact hR2
        · have hjl := hj.resolve_left e
          have hnc : (j :: depsAt md ops j).contains i = false := by
            rw [← Bool.not_eq_true, List.contains_iff_mem, List.mem_cons]
            rintro (h | h)
            · exact e h.symm
            · exact hun (hcl j hjl i h)
          rw [restr_upd hnc]
          exact hF i _ w w' j _ hR1 e (fun h => hun (hcl j hjl i h)) (hf j hjl)
end
/-- The steps; G is what is known of the world, ahead of the one with number s (false) and behind it (true). -/
def DStepsG (P : Program) (ops : Array Oper) (N : Nat) (G : Bool → World → Prop) (sd : List (Option Tmp × VS)) (dl : List (List Nat)) (f : Fl) (s : Nat) (rel : World → World → Prop) : Nat → List Oper → Prop
  | _, [] => True
  | k, o :: l => (∀ d W, G d W → (k = s → d = false) → DStep P ops o N W sd (fun v W' => (if k = s then rel W W' ∧ G true W' else Below W.heap.size W W') ∧ okAt sd k v W') ((dl[k]?).getD []) f) ∧ DStepsG P ops N G sd dl f s rel (k + 1) l
section
variable {P : Program} {N : Nat} {sd : List (Option Tmp × VS)} {dl : List (List Nat)} {G : Bool → World → Prop}
theorem DStepsG.cons {ops : Array Oper} {f : Fl} {k s : Nat} {rel : World → World → Prop} {o : Oper} {l : List Oper} (hk : k ≠ s) (h : ∀ d W, G d W → DStep P ops o N W sd (fun v W' => Below W.heap.size W W' ∧ okAt sd k v W') ((dl[k]?).getD []) f) (hl : DStepsG P ops N G sd dl f s rel (k + 1) l) : DStepsG P ops N G sd dl f s rel k (o :: l) := ⟨by simp only [if_neg hk]; exact fun d W hG _ => h d W hG, hl⟩
theorem DStepsG.hit {ops : Array Oper} {f : Fl} {s : Nat} {rel : World → World → Prop} {o : Oper} {l : List Oper} (h : ∀ W, G false W → DStep P ops o N W sd (fun v W' => (rel W W' ∧ G true W') ∧ okAt sd s v W') ((dl[s]?).getD []) f) (hl : DStepsG P ops N G sd dl f s rel (s + 1) l) : DStepsG P ops N G sd dl f s rel s (o :: l) := ⟨by simp only [if_true]; exact fun d W hG hd => by cases hd trivial; exact h W hG, hl⟩
theorem foldl_set_ne {α : Type} {x : α} : ∀ (ex : List Nat) (l : List α) {j : Nat}, j ∉ ex → (ex.foldl (fun l k => l.set k x) l)[j]? = l[j]?
  | [], l, j, _ => rfl
  | k :: ex, l, j, h => by
    rw [List.foldl_cons, foldl_set_ne ex _ (fun hj => h (.tail _ hj)), List.getElem?_set_ne (fun e : k = j => h (by rw [e]; exact .head _))]
/-- The rule. -/
theorem WC.drawG {id : Nat} {f : Fl} {w : World} {Q : Exit → Act → World → Prop} (m s : Nat) (rel : World → World → Prop) {ops : List Oper} (sd : List (Option Tmp × VS)) (dl : List (List Nat)) (hm : P.follows .mixedOrders = true) (hb : ordB .any ops.toArray = true) (hbp : ordB .any (ops.take m).toArray = true) (ht : tailB .any ops.toArray (ops.take m).length = true) (hdl : (ops.take m).map (depsOf .any) = dl)
    (hds : (ops.take m).map (·.dst) = sd.map (·.1)) (hN : inN N sd = true) (hmono : VS.mono sd) (ex : List Nat) (hex : (ex.all fun j => j == s || ((dl[j]?).getD []).contains s) = true) (hrel : VS.monoR rel (ex.foldl (fun l k => l.set k (none, .is undef)) sd)) (hG0 : ∀ W, Below w.heap.size w W → G false W) (hGb : ∀ d W W', G d W → Below W.heap.size W W' → G d W') (hsl : s < sd.length) (hst : DStepsG P (ops.take m).toArray N G sd dl f s rel 0 (ops.take m))
    (hend : ∀ W, G true W → DEnd (fun f W => WL P ops.toArray Q N (ops.drop m) f W) W sd f) : WC P N (.region id ops.toArray true) Q f w := fun a ha => by
  obtain ⟨pre, hpre⟩ : ∃ pre, pre = ops.take m := ⟨_, rfl⟩
  obtain ⟨suf, hsuf⟩ : ∃ suf, suf = ops.drop m := ⟨_, rfl⟩
  have hops : pre ++ suf = ops := by rw [hpre, hsuf]; exact List.take_append_drop m ops
  rw [← hpre] at hbp ht hdl hds hst
  rw [← hsuf] at hend
  clear hpre hsuf
  subst hops
  have hlen : dl.length = sd.length := by rw [← hdl, List.length_map, ← List.length_map (f := (·.dst)), hds, List.length_map]
  have hpl : pre.length = dl.length := by rw [← hdl, List.length_map]
  refine wp_region_any hm ?_
  have hrep : Array.replicate (pre ++ suf).toArray.size false = Array.replicate pre.toArray.size false ++ Array.replicate suf.length false := by
    simp [Array.replicate_append_replicate]
  rw [hrep]
  have hsz : (pre ++ suf).toArray.size = pre.toArray.size + suf.length := by simp
  rw [hsz]
  refine pre_tail (pre := pre.toArray) (suf := suf) hb hbp (by simp) (by simpa using ht) pre.toArray.size _ (by simp) (fun j hj => by simp [Array.getD_eq_getD_getElem?, Array.getElem?_replicate] at hj; split at hj <;> simp_all) a w.drew ?_
  have hda : ∀ j, depsAt .any pre.toArray j = (dl[j]?).getD [] := by
    intro j
    subst hdl
    simp only [depsAt, List.getElem?_map, List.getElem?_toArray]
  have hF0 : ∀ j, (Array.replicate pre.toArray.size false).getD j false = true → False := fun j hj => by simp [Array.getD_eq_getD_getElem?, Array.getElem?_replicate] at hj; split at hj <;> simp_all
  refine wpAny_factsD hbp a (fun L W => G (L s) W) (fun j g W => okAt sd j (g j) W) (fun i _ W W' => if i = s then rel W W' else Below W.heap.size W W') ?_ ?_ ?_ pre.toArray.size _ (fun _ => undef) a w.drew (by simp) (by
      have := List.countP_le_length (p := fun b => !b) (l := (Array.replicate pre.toArray.size false).toList)
      simpa using this) (fun j hj => (hF0 j hj).elim) (Agrees.start fun j hj => hF0 j hj) (by
      have h0 : (Array.replicate pre.toArray.size false).getD s false = false := by
        cases hq : (Array.replicate pre.toArray.size false).getD s false with
        | false => rfl
        | true => exact (hF0 s hq).elim
      show G ((Array.replicate pre.toArray.size false).getD s false) w.drew
      rw [h0]
      exact hG0 _ (below_draws (Below.refl _ _) 1)) (fun j hj => (hF0 j hj).elim)
  · intro i g W W' j g' hB hne hnd h
    unfold okAt at h ⊢
    cases hs : sd[j]? with
    | none => trivial
    | some p =>
      obtain ⟨d, s'⟩ := p
      rw [hs] at h
      cases s' with
      | is v => exact h
      | «by» p =>
        by_cases hi : i = s
        · rw [if_pos hi] at hB
          refine monoR_at hrel (j := j) (d := d) ?_ _ W W' hB h
          rw [foldl_set_ne ex sd fun hj => ?_, hs]
          have := List.all_eq_true.1 hex j hj
          simp only [Bool.or_eq_true, beq_iff_eq] at this
          rcases this with h1 | h1
          · exact hne (h1.trans hi.symm)
          · refine hnd ?_
            rw [hda j, hi]
            exact List.contains_iff_mem.1 h1
        · rw [if_neg hi] at hB
          exact mono_at hmono hs _ W W' hB h
  · intro i o hoi L g W hLi _ hG hd
    have key : ∀ (l : List Oper) (k : Nat), DStepsG P pre.toArray N G sd dl f s rel k l → ∀ j o, l[j]? = some o → ∀ d W, G d W → (k + j = s → d = false) → DStep P pre.toArray o N W sd (fun v W' => (if k + j = s then rel W W' ∧ G true W' else Below W.heap.size W W') ∧ okAt sd (k + j) v W') ((dl[k + j]?).getD []) f := by
      intro l
      induction l with
      | nil => intro k _ j o h; simp at h
      | cons x l ih =>
        intro k hs j o h
        cases j with
        | zero =>
          simp only [List.getElem?_cons_zero, Option.some.injEq] at h
          subst h
          exact hs.1
        | succ j =>
          have := ih (k + 1) hs.2 j o (by simpa using h)
          rw [show k + (j + 1) = k + 1 + j by omega]
          exact this
    have hk := key pre 0 hst i o (by simpa using hoi) (L s) W hG (fun e => by rw [← e, Nat.zero_add]; exact hLi)
    rw [Nat.zero_add] at hk
    have hdo : depsOf .any o = (dl[i]?).getD [] := by rw [← hda i, depsAt_eq hoi]
    rw [hdo] at hd ⊢
    rw [putL_eq (ds := sd.map (·.1)) (by simpa using hds)]
    have hH : HypL (fun j g w => okAt sd j (g j) w) dl g W ((dl[i]?).getD []) := HypL.of _ fun j hj => by have := hd j hj; rwa [hda j] at this
    refine (DStep.to hN _ f a hk ha hH).mono fun v W' h => ⟨?_, ?_, ?_⟩
    · by_cases hi : i = s
      · have h1 := h.1
        rw [if_pos hi] at h1 ⊢
        exact h1.1
      · have h1 := h.1
        rw [if_neg hi] at h1 ⊢
        exact h1
    · show G (upd L i true s) W'
      by_cases hi : i = s
      · have h1 := h.1
        rw [if_pos hi] at h1
        rw [upd, if_pos hi.symm]
        exact h1.2
      · have h1 := h.1
        rw [if_neg hi] at h1
        rw [upd, if_neg (fun h => hi h.symm)]
        exact hGb _ _ _ hG h1
    · simp only [restr_self]
      rw [show upd g i v i = v by simp [upd]]
      exact h.2
  · intro L g W hL hG hd
    have hLs : L s = true := by
      rw [hL s]
      have : s < pre.toArray.size := by
        simp
        omega
      simpa using this
    replace hG : G true W := by rw [← hLs]; exact hG
    rw [putL_eq (ds := sd.map (·.1)) (by simpa using hds)]
    have hH : HypL (fun j g w => okAt sd j (g j) w) dl g W (List.range' 0 sd.length) := HypL.of _ fun j hj => by
      have hj' : j < pre.toArray.size := by
        simp [List.mem_range'] at hj
        simp
        omega
      have := hd j hj'
      rwa [hda j] at this
    have hfin := DEnd.to (Q := fun a W => wpList P (pre ++ suf).toArray Q suf a W) hN (fun f h a ha => h a ha) sd 0 f a (by simp) (hend W hG) ha hH
    show wpOps P (pre ++ suf).toArray Q (List.range' pre.toArray.size suf.length) _ _
    rw [wpOps_eq_wpList suf pre.toArray.size (fun j => by simp [List.getElem?_append_right])]
    rw [List.range_eq_range', show pre.toArray.size = sd.length by simp; omega]
    exact hfin
end
theorem Blk.chg {w w' : World} {B C : Nat} {cs : List Value} (h : Blk w C cs) (g : Chg B w w') (hn : C ≠ B) : Blk w' C cs := by
  obtain ⟨t, h'⟩ := h
  exact ⟨t, by rw [g.block C (Blk.lt ⟨t, h'⟩) hn]; exact h'⟩
theorem Chg.of_below {B : Nat} {w w' : World} (h : Below w.heap.size w w') : Chg B w w' := ⟨h.os, h.tape, h.output, h.size, fun k hk _ => h.block k hk⟩
end Go.Proofs.YtohnicmacmkapaaDoor
namespace Go.Proofs.YtohnicmacmkapaaDoor
set_option linter.unusedVariables false
set_option maxRecDepth 8000
theorem ty_one_1 : oneB Tryd.prog 1 = true := by kernel_rfl
theorem ty_size_1_1 : sizeB Tryd.prog 1 1 = true := by kernel_rfl
theorem ty_one_2 : oneB Tryd.prog 2 = true := by kernel_rfl
theorem ty_size_2_1 : sizeB Tryd.prog 2 1 = true := by kernel_rfl
theorem ty_zero_2 : (Tryd.prog.info? 2).bind (·.zero) = some (.int .i64 0) := by kernel_rfl
theorem ty_one_3 : oneB Tryd.prog 3 = true := by kernel_rfl
theorem ty_size_3_1 : sizeB Tryd.prog 3 1 = true := by kernel_rfl
theorem ty_zero_3 : (Tryd.prog.info? 3).bind (·.zero) = some (.int .i64 0) := by kernel_rfl
theorem ty_one_4 : oneB Tryd.prog 4 = true := by kernel_rfl
theorem ty_size_4_1 : sizeB Tryd.prog 4 1 = true := by kernel_rfl
theorem ty_zero_4 : (Tryd.prog.info? 4).bind (·.zero) = some (.bool false) := by kernel_rfl
theorem ty_one_5 : oneB Tryd.prog 5 = true := by kernel_rfl
theorem ty_size_5_1 : sizeB Tryd.prog 5 1 = true := by kernel_rfl
theorem ty_zero_5 : (Tryd.prog.info? 5).bind (·.zero) = some (.int .u8 0) := by kernel_rfl
theorem ty_one_6 : oneB Tryd.prog 6 = true := by kernel_rfl
theorem ty_size_6_1 : sizeB Tryd.prog 6 1 = true := by kernel_rfl
theorem ty_zero_6 : (Tryd.prog.info? 6).bind (·.zero) = some (.int .u8 0) := by kernel_rfl
theorem ty_agg_7_4 : aggB Tryd.prog 7 4 = true := by kernel_rfl
theorem ty_size_7_4 : sizeB Tryd.prog 7 4 = true := by kernel_rfl
theorem ty_fld_7_0_0 : fldB Tryd.prog 7 0 0 = true := by kernel_rfl
theorem ty_fld_7_1_1 : fldB Tryd.prog 7 1 1 = true := by kernel_rfl
theorem ty_fld_7_2_2 : fldB Tryd.prog 7 2 2 = true := by kernel_rfl
theorem ty_fld_7_3_3 : fldB Tryd.prog 7 3 3 = true := by kernel_rfl
theorem ty_zero_7 : (Tryd.prog.info? 7).bind (·.zero) = some (.agg #[.int .i64 0, .int .i64 0, .bool false, .int .u8 0]) := by kernel_rfl
theorem ty_agg_8_4 : aggB Tryd.prog 8 4 = true := by kernel_rfl
theorem ty_size_8_4 : sizeB Tryd.prog 8 4 = true := by kernel_rfl
theorem ty_fld_8_0_0 : fldB Tryd.prog 8 0 0 = true := by kernel_rfl
theorem ty_fld_8_1_1 : fldB Tryd.prog 8 1 1 = true := by kernel_rfl
theorem ty_fld_8_2_2 : fldB Tryd.prog 8 2 2 = true := by kernel_rfl
theorem ty_fld_8_3_3 : fldB Tryd.prog 8 3 3 = true := by kernel_rfl
theorem ty_zero_8 : (Tryd.prog.info? 8).bind (·.zero) = some (.agg #[.int .i64 0, .int .i64 0, .bool false, .int .u8 0]) := by kernel_rfl
theorem ty_one_9 : oneB Tryd.prog 9 = true := by kernel_rfl
theorem ty_size_9_1 : sizeB Tryd.prog 9 1 = true := by kernel_rfl
theorem ty_zero_9 : (Tryd.prog.info? 9).bind (·.zero) = some (.string ⟨#[]⟩) := by kernel_rfl
theorem ty_one_10 : oneB Tryd.prog 10 = true := by kernel_rfl
theorem ty_size_10_1 : sizeB Tryd.prog 10 1 = true := by kernel_rfl
theorem ty_zero_10 : (Tryd.prog.info? 10).bind (·.zero) = some (.string ⟨#[]⟩) := by kernel_rfl
theorem ty_one_11 : oneB Tryd.prog 11 = true := by kernel_rfl
theorem ty_size_11_1 : sizeB Tryd.prog 11 1 = true := by kernel_rfl
theorem ty_zero_11 : (Tryd.prog.info? 11).bind (·.zero) = some (.string ⟨#[]⟩) := by kernel_rfl
theorem ty_one_12 : oneB Tryd.prog 12 = true := by kernel_rfl
theorem ty_size_12_1 : sizeB Tryd.prog 12 1 = true := by kernel_rfl
theorem ty_zero_12 : (Tryd.prog.info? 12).bind (·.zero) = some (.int .u64 0) := by kernel_rfl
theorem ty_agg_13_2 : aggB Tryd.prog 13 2 = true := by kernel_rfl
theorem ty_size_13_2 : sizeB Tryd.prog 13 2 = true := by kernel_rfl
theorem ty_fld_13_0_0 : fldB Tryd.prog 13 0 0 = true := by kernel_rfl
theorem ty_fld_13_1_1 : fldB Tryd.prog 13 1 1 = true := by kernel_rfl
theorem ty_zero_13 : (Tryd.prog.info? 13).bind (·.zero) = some (.agg #[.string ⟨#[]⟩, .int .u64 0]) := by kernel_rfl
theorem ty_agg_14_2 : aggB Tryd.prog 14 2 = true := by kernel_rfl
theorem ty_size_14_2 : sizeB Tryd.prog 14 2 = true := by kernel_rfl
theorem ty_fld_14_0_0 : fldB Tryd.prog 14 0 0 = true := by kernel_rfl
theorem ty_fld_14_1_1 : fldB Tryd.prog 14 1 1 = true := by kernel_rfl
theorem ty_zero_14 : (Tryd.prog.info? 14).bind (·.zero) = some (.agg #[.string ⟨#[]⟩, .int .u64 0]) := by kernel_rfl
theorem ty_one_21 : oneB Tryd.prog 21 = true := by kernel_rfl
theorem ty_size_21_1 : sizeB Tryd.prog 21 1 = true := by kernel_rfl
theorem ty_zero_21 : (Tryd.prog.info? 21).bind (·.zero) = some (.int .i32 0) := by kernel_rfl
theorem ty_one_22 : oneB Tryd.prog 22 = true := by kernel_rfl
theorem ty_size_22_1 : sizeB Tryd.prog 22 1 = true := by kernel_rfl
theorem ty_slice_22 : sliceB Tryd.prog 22 1 = true := by kernel_rfl
theorem ty_ap_22 : apB Tryd.prog 22 1 24 = true := by kernel_rfl
theorem ty_zero_22 : (Tryd.prog.info? 22).bind (·.zero) = some (.slice none 0 0) := by kernel_rfl
theorem ty_one_23 : oneB Tryd.prog 23 = true := by kernel_rfl
theorem ty_size_23_1 : sizeB Tryd.prog 23 1 = true := by kernel_rfl
theorem ty_one_24 : oneB Tryd.prog 24 = true := by kernel_rfl
theorem ty_size_24_1 : sizeB Tryd.prog 24 1 = true := by kernel_rfl
theorem ty_one_25 : oneB Tryd.prog 25 = true := by kernel_rfl
theorem ty_size_25_1 : sizeB Tryd.prog 25 1 = true := by kernel_rfl
theorem ty_slice_25 : sliceB Tryd.prog 25 1 = true := by kernel_rfl
theorem ty_ap_25 : apB Tryd.prog 25 1 1 = true := by kernel_rfl
theorem ty_zero_25 : (Tryd.prog.info? 25).bind (·.zero) = some (.slice none 0 0) := by kernel_rfl
theorem ty_one_26 : oneB Tryd.prog 26 = true := by kernel_rfl
theorem ty_size_26_1 : sizeB Tryd.prog 26 1 = true := by kernel_rfl
theorem ty_agg_27_32 : aggB Tryd.prog 27 32 = true := by kernel_rfl
theorem ty_size_27_32 : sizeB Tryd.prog 27 32 = true := by kernel_rfl
theorem ty_zero_27 : (Tryd.prog.info? 27).bind (·.zero) = some (.agg (Array.replicate 32 (.int .u8 0))) := by kernel_rfl
theorem ty_one_28 : oneB Tryd.prog 28 = true := by kernel_rfl
theorem ty_size_28_1 : sizeB Tryd.prog 28 1 = true := by kernel_rfl
theorem ty_one_29 : oneB Tryd.prog 29 = true := by kernel_rfl
theorem ty_size_29_1 : sizeB Tryd.prog 29 1 = true := by kernel_rfl
theorem ty_agg_30_64 : aggB Tryd.prog 30 64 = true := by kernel_rfl
theorem ty_size_30_64 : sizeB Tryd.prog 30 64 = true := by kernel_rfl
theorem ty_zero_30 : (Tryd.prog.info? 30).bind (·.zero) = some (.agg (Array.replicate 64 (.int .u8 0))) := by kernel_rfl
theorem ty_one_31 : oneB Tryd.prog 31 = true := by kernel_rfl
theorem ty_size_31_1 : sizeB Tryd.prog 31 1 = true := by kernel_rfl
theorem ty_one_32 : oneB Tryd.prog 32 = true := by kernel_rfl
theorem ty_size_32_1 : sizeB Tryd.prog 32 1 = true := by kernel_rfl
theorem ty_one_33 : oneB Tryd.prog 33 = true := by kernel_rfl
theorem ty_size_33_1 : sizeB Tryd.prog 33 1 = true := by kernel_rfl
theorem ty_zero_33 : (Tryd.prog.info? 33).bind (·.zero) = some (.int .u16 0) := by kernel_rfl
theorem ty_one_34 : oneB Tryd.prog 34 = true := by kernel_rfl
theorem ty_size_34_1 : sizeB Tryd.prog 34 1 = true := by kernel_rfl
theorem ty_one_35 : oneB Tryd.prog 35 = true := by kernel_rfl
theorem ty_size_35_1 : sizeB Tryd.prog 35 1 = true := by kernel_rfl
theorem ty_one_36 : oneB Tryd.prog 36 = true := by kernel_rfl
theorem ty_size_36_1 : sizeB Tryd.prog 36 1 = true := by kernel_rfl
theorem ty_one_37 : oneB Tryd.prog 37 = true := by kernel_rfl
theorem ty_size_37_1 : sizeB Tryd.prog 37 1 = true := by kernel_rfl
theorem ty_one_38 : oneB Tryd.prog 38 = true := by kernel_rfl
theorem ty_size_38_1 : sizeB Tryd.prog 38 1 = true := by kernel_rfl
theorem ty_one_39 : oneB Tryd.prog 39 = true := by kernel_rfl
theorem ty_size_39_1 : sizeB Tryd.prog 39 1 = true := by kernel_rfl
theorem ty_zero_39 : (Tryd.prog.info? 39).bind (·.zero) = some (.int .u32 0) := by kernel_rfl
theorem ty_one_40 : oneB Tryd.prog 40 = true := by kernel_rfl
theorem ty_size_40_1 : sizeB Tryd.prog 40 1 = true := by kernel_rfl
theorem ty_one_41 : oneB Tryd.prog 41 = true := by kernel_rfl
theorem ty_size_41_1 : sizeB Tryd.prog 41 1 = true := by kernel_rfl
theorem ty_one_42 : oneB Tryd.prog 42 = true := by kernel_rfl
theorem ty_size_42_1 : sizeB Tryd.prog 42 1 = true := by kernel_rfl
theorem ty_zero_42 : (Tryd.prog.info? 42).bind (·.zero) = some (.int .u64 0) := by kernel_rfl
theorem ty_agg_43_8 : aggB Tryd.prog 43 8 = true := by kernel_rfl
theorem ty_size_43_8 : sizeB Tryd.prog 43 8 = true := by kernel_rfl
theorem ty_zero_43 : (Tryd.prog.info? 43).bind (·.zero) = some (.agg #[.int .u32 0, .int .u32 0, .int .u32 0, .int .u32 0, .int .u32 0, .int .u32 0, .int .u32 0, .int .u32 0]) := by kernel_rfl
theorem ty_agg_44_14 : aggB Tryd.prog 44 14 = true := by kernel_rfl
theorem ty_size_44_14 : sizeB Tryd.prog 44 14 = true := by kernel_rfl
theorem ty_fld_44_0_0 : fldB Tryd.prog 44 0 0 = true := by kernel_rfl
theorem ty_fld_44_1_1 : fldB Tryd.prog 44 1 1 = true := by kernel_rfl
theorem ty_fld_44_2_2 : fldB Tryd.prog 44 2 2 = true := by kernel_rfl
theorem ty_fld_44_3_10 : fldB Tryd.prog 44 3 10 = true := by kernel_rfl
theorem ty_fld_44_4_11 : fldB Tryd.prog 44 4 11 = true := by kernel_rfl
theorem ty_fld_44_5_12 : fldB Tryd.prog 44 5 12 = true := by kernel_rfl
theorem ty_fld_44_6_13 : fldB Tryd.prog 44 6 13 = true := by kernel_rfl
theorem ty_zero_44 : (Tryd.prog.info? 44).bind (·.zero) = some (.agg #[.int .i64 0, .int .i64 0, .int .u32 0, .int .u32 0, .int .u32 0, .int .u32 0, .int .u32 0, .int .u32 0, .int .u32 0, .int .u32 0, .nilFunc, .nilFunc, .nilFunc, .nilFunc]) := by kernel_rfl
theorem ty_agg_45_14 : aggB Tryd.prog 45 14 = true := by kernel_rfl
theorem ty_size_45_14 : sizeB Tryd.prog 45 14 = true := by kernel_rfl
theorem ty_fld_45_0_0 : fldB Tryd.prog 45 0 0 = true := by kernel_rfl
theorem ty_fld_45_1_1 : fldB Tryd.prog 45 1 1 = true := by kernel_rfl
theorem ty_fld_45_2_2 : fldB Tryd.prog 45 2 2 = true := by kernel_rfl
theorem ty_fld_45_3_10 : fldB Tryd.prog 45 3 10 = true := by kernel_rfl
theorem ty_fld_45_4_11 : fldB Tryd.prog 45 4 11 = true := by kernel_rfl
theorem ty_fld_45_5_12 : fldB Tryd.prog 45 5 12 = true := by kernel_rfl
theorem ty_fld_45_6_13 : fldB Tryd.prog 45 6 13 = true := by kernel_rfl
theorem ty_zero_45 : (Tryd.prog.info? 45).bind (·.zero) = some (.agg #[.int .i64 0, .int .i64 0, .int .u32 0, .int .u32 0, .int .u32 0, .int .u32 0, .int .u32 0, .int .u32 0, .int .u32 0, .int .u32 0, .nilFunc, .nilFunc, .nilFunc, .nilFunc]) := by kernel_rfl
theorem ty_one_46 : oneB Tryd.prog 46 = true := by kernel_rfl
theorem ty_size_46_1 : sizeB Tryd.prog 46 1 = true := by kernel_rfl
theorem ty_one_47 : oneB Tryd.prog 47 = true := by kernel_rfl
theorem ty_size_47_1 : sizeB Tryd.prog 47 1 = true := by kernel_rfl
theorem ty_one_48 : oneB Tryd.prog 48 = true := by kernel_rfl
theorem ty_size_48_1 : sizeB Tryd.prog 48 1 = true := by kernel_rfl
theorem ty_one_49 : oneB Tryd.prog 49 = true := by kernel_rfl
theorem ty_size_49_1 : sizeB Tryd.prog 49 1 = true := by kernel_rfl
theorem ty_zero_49 : (Tryd.prog.info? 49).bind (·.zero) = some (.int .u64 0) := by kernel_rfl
theorem ty_one_50 : oneB Tryd.prog 50 = true := by kernel_rfl
theorem ty_size_50_1 : sizeB Tryd.prog 50 1 = true := by kernel_rfl
theorem ty_one_51 : oneB Tryd.prog 51 = true := by kernel_rfl
theorem ty_size_51_1 : sizeB Tryd.prog 51 1 = true := by kernel_rfl
theorem ty_agg_52_8 : aggB Tryd.prog 52 8 = true := by kernel_rfl
theorem ty_size_52_8 : sizeB Tryd.prog 52 8 = true := by kernel_rfl
theorem ty_zero_52 : (Tryd.prog.info? 52).bind (·.zero) = some (.agg #[.int .u64 0, .int .u64 0, .int .u64 0, .int .u64 0, .int .u64 0, .int .u64 0, .int .u64 0, .int .u64 0]) := by kernel_rfl
theorem ty_agg_53_14 : aggB Tryd.prog 53 14 = true := by kernel_rfl
theorem ty_size_53_14 : sizeB Tryd.prog 53 14 = true := by kernel_rfl
theorem ty_fld_53_0_0 : fldB Tryd.prog 53 0 0 = true := by kernel_rfl
theorem ty_fld_53_1_1 : fldB Tryd.prog 53 1 1 = true := by kernel_rfl
theorem ty_fld_53_2_2 : fldB Tryd.prog 53 2 2 = true := by kernel_rfl
theorem ty_fld_53_3_10 : fldB Tryd.prog 53 3 10 = true := by kernel_rfl
theorem ty_fld_53_4_11 : fldB Tryd.prog 53 4 11 = true := by kernel_rfl
theorem ty_fld_53_5_12 : fldB Tryd.prog 53 5 12 = true := by kernel_rfl
theorem ty_fld_53_6_13 : fldB Tryd.prog 53 6 13 = true := by kernel_rfl
theorem ty_zero_53 : (Tryd.prog.info? 53).bind (·.zero) = some (.agg #[.int .i64 0, .int .i64 0, .int .u64 0, .int .u64 0, .int .u64 0, .int .u64 0, .int .u64 0, .int .u64 0, .int .u64 0, .int .u64 0, .nilFunc, .nilFunc, .nilFunc, .nilFunc]) := by kernel_rfl
theorem ty_agg_54_14 : aggB Tryd.prog 54 14 = true := by kernel_rfl
theorem ty_size_54_14 : sizeB Tryd.prog 54 14 = true := by kernel_rfl
theorem ty_fld_54_0_0 : fldB Tryd.prog 54 0 0 = true := by kernel_rfl
theorem ty_fld_54_1_1 : fldB Tryd.prog 54 1 1 = true := by kernel_rfl
theorem ty_fld_54_2_2 : fldB Tryd.prog 54 2 2 = true := by kernel_rfl
theorem ty_fld_54_3_10 : fldB Tryd.prog 54 3 10 = true := by kernel_rfl
theorem ty_fld_54_4_11 : fldB Tryd.prog 54 4 11 = true := by kernel_rfl
theorem ty_fld_54_5_12 : fldB Tryd.prog 54 5 12 = true := by kernel_rfl
theorem ty_fld_54_6_13 : fldB Tryd.prog 54 6 13 = true := by kernel_rfl
theorem ty_zero_54 : (Tryd.prog.info? 54).bind (·.zero) = some (.agg #[.int .i64 0, .int .i64 0, .int .u64 0, .int .u64 0, .int .u64 0, .int .u64 0, .int .u64 0, .int .u64 0, .int .u64 0, .int .u64 0, .nilFunc, .nilFunc, .nilFunc, .nilFunc]) := by kernel_rfl
theorem ty_one_55 : oneB Tryd.prog 55 = true := by kernel_rfl
theorem ty_size_55_1 : sizeB Tryd.prog 55 1 = true := by kernel_rfl
theorem ty_one_57 : oneB Tryd.prog 57 = true := by kernel_rfl
theorem ty_size_57_1 : sizeB Tryd.prog 57 1 = true := by kernel_rfl
theorem ty_one_58 : oneB Tryd.prog 58 = true := by kernel_rfl
theorem ty_size_58_1 : sizeB Tryd.prog 58 1 = true := by kernel_rfl
theorem ty_agg_59_3 : aggB Tryd.prog 59 3 = true := by kernel_rfl
theorem ty_size_59_3 : sizeB Tryd.prog 59 3 = true := by kernel_rfl
theorem ty_zero_59 : (Tryd.prog.info? 59).bind (·.zero) = some (.agg #[.int .i64 0, .int .i64 0, .int .i64 0]) := by kernel_rfl
theorem ty_agg_60_12 : aggB Tryd.prog 60 12 = true := by kernel_rfl
theorem ty_size_60_12 : sizeB Tryd.prog 60 12 = true := by kernel_rfl
theorem ty_zero_60 : (Tryd.prog.info? 60).bind (·.zero) = some (.agg #[.int .i64 0, .int .i64 0, .int .i64 0, .int .i64 0, .int .i64 0, .int .i64 0, .int .i64 0, .int .i64 0, .int .i64 0, .int .i64 0, .int .i64 0, .int .i64 0]) := by kernel_rfl
theorem ty_agg_61_80 : aggB Tryd.prog 61 80 = true := by kernel_rfl
theorem ty_size_61_80 : sizeB Tryd.prog 61 80 = true := by kernel_rfl
theorem ty_zero_61 : (Tryd.prog.info? 61).bind (·.zero) = some (.agg (Array.replicate 80 (.int .u64 0))) := by kernel_rfl
theorem ty_one_62 : oneB Tryd.prog 62 = true := by kernel_rfl
theorem ty_size_62_1 : sizeB Tryd.prog 62 1 = true := by kernel_rfl
theorem ty_agg_64_80 : aggB Tryd.prog 64 80 = true := by kernel_rfl
theorem ty_size_64_80 : sizeB Tryd.prog 64 80 = true := by kernel_rfl
theorem ty_zero_64 : (Tryd.prog.info? 64).bind (·.zero) = some (.agg (Array.replicate 80 (.int .u32 0))) := by kernel_rfl
theorem ty_one_65 : oneB Tryd.prog 65 = true := by kernel_rfl
theorem ty_size_65_1 : sizeB Tryd.prog 65 1 = true := by kernel_rfl
theorem ty_one_66 : oneB Tryd.prog 66 = true := by kernel_rfl
theorem ty_size_66_1 : sizeB Tryd.prog 66 1 = true := by kernel_rfl
theorem ty_one_67 : oneB Tryd.prog 67 = true := by kernel_rfl
theorem ty_size_67_1 : sizeB Tryd.prog 67 1 = true := by kernel_rfl
theorem ty_one_68 : oneB Tryd.prog 68 = true := by kernel_rfl
theorem ty_size_68_1 : sizeB Tryd.prog 68 1 = true := by kernel_rfl
theorem ty_one_74 : oneB Tryd.prog 74 = true := by kernel_rfl
theorem ty_size_74_1 : sizeB Tryd.prog 74 1 = true := by kernel_rfl
theorem ty_one_75 : oneB Tryd.prog 75 = true := by kernel_rfl
theorem ty_size_75_1 : sizeB Tryd.prog 75 1 = true := by kernel_rfl
theorem ty_zero_75 : (Tryd.prog.info? 75).bind (·.zero) = some (.int .u8 0) := by kernel_rfl
theorem ty_one_76 : oneB Tryd.prog 76 = true := by kernel_rfl
theorem ty_size_76_1 : sizeB Tryd.prog 76 1 = true := by kernel_rfl
theorem ty_zero_76 : (Tryd.prog.info? 76).bind (·.zero) = some (.int .u8 0) := by kernel_rfl
theorem ty_one_77 : oneB Tryd.prog 77 = true := by kernel_rfl
theorem ty_size_77_1 : sizeB Tryd.prog 77 1 = true := by kernel_rfl
theorem ty_one_79 : oneB Tryd.prog 79 = true := by kernel_rfl
theorem ty_size_79_1 : sizeB Tryd.prog 79 1 = true := by kernel_rfl
theorem ty_zero_79 : (Tryd.prog.info? 79).bind (·.zero) = some (.int .i32 0) := by kernel_rfl
theorem ty_one_80 : oneB Tryd.prog 80 = true := by kernel_rfl
theorem ty_size_80_1 : sizeB Tryd.prog 80 1 = true := by kernel_rfl
theorem ty_zero_80 : (Tryd.prog.info? 80).bind (·.zero) = some (.int .i32 0) := by kernel_rfl
end Go.Proofs.YtohnicmacmkapaaDoor
