/- Slices of the call's own: rows that may be written, and appended to. No program stands here. -/
import Derived.Test.YthefddclefimoaaDoorCv
import Derived.Test.YthefddclefimoaaDoorDrT
import Derived.Laws.AppendOwnNone
namespace Go.Proofs.YthefddclefimoaaDoor
open Go.RowKit
set_option linter.unusedVariables false
set_option linter.unusedSimpArgs false

/-- A block is written to, or another one comes in its place. -/
structure GrowB (B B' : Nat) (w w' : World) : Prop where
  os : w'.os = w.os
  tape : w'.tape = w.tape
  output : w'.output = w.output
  size : w.heap.size ≤ w'.heap.size
  block : ∀ k, k < w.heap.size → k ≠ B → w'.heap[k]? = w.heap[k]?
  new : B' = B ∨ w.heap.size ≤ B'
theorem GrowB.of_only {B : Nat} {w w' : World} (h : Only B w w') : GrowB B B w w' := ⟨h.os, h.tape, h.output, by rw [h.size]; exact Nat.le_refl _, fun k _ hk => h.block k hk, .inl rfl⟩
theorem GrowB.of_below {B : Nat} {w w' : World} (h : Below w.heap.size w w') : GrowB B w.heap.size w w' := ⟨h.os, h.tape, h.output, h.size, fun k hk _ => h.block k hk, .inr (Nat.le_refl _)⟩
theorem GrowB.below {n0 B B' : Nat} {w0 w w' : World} (h : GrowB B B' w w') (hb : Below n0 w0 w) (hB : n0 ≤ B) (hn : n0 ≤ w.heap.size) : Below n0 w0 w' :=
  ⟨by rw [h.os]; exact hb.os, by rw [h.tape]; exact hb.tape, by rw [h.output]; exact hb.output, Nat.le_trans hb.size h.size, fun k hk => by rw [h.block k (by omega) (by omega)]; exact hb.block k hk⟩
theorem GrowB.le {n0 B B' : Nat} {w w' : World} (h : GrowB B B' w w') (hB : n0 ≤ B) (hn : n0 ≤ w.heap.size) : n0 ≤ B' := by
  cases h.new with
  | inl e => omega
  | inr e => omega
theorem Blk.grow {w w' : World} {B B' C : Nat} {cs : List Value} (h : Blk w C cs) (hg : GrowB B B' w w') (hn : C ≠ B) : Blk w' C cs := by
  have hlt := h.lt
  obtain ⟨t, h'⟩ := h
  exact ⟨t, by rw [hg.block C hlt hn]; exact h'⟩
theorem Blk.grow_ne {w w' : World} {B B' C : Nat} {cs : List Value} (h : Blk w C cs) (hg : GrowB B B' w w') (hn : C ≠ B) : C ≠ B' := by
  have hlt := h.lt
  cases hg.new with
  | inl e => rw [e]; exact hn
  | inr e => omega
theorem rdf_lt {s : Nat} {L : List Nat} {w : World} {a : Option Addr} {n cap : Nat} {rs : List (List Value)} (h : RdF s L w (.slice a n cap) rs) {X o : Nat} (ha : a = some ⟨X, o, none⟩) (hn : rs ≠ []) : X < w.heap.size := by
  obtain ⟨h0, hr, a', cap', h1, h2, h3, h4, h5⟩ := h
  obtain ⟨X', o', e, hX, hc⟩ := h5 hn
  simp only [Value.slice.injEq] at h1
  rw [← h1.1, ha] at e
  simp at e
  have hlen : 0 < rs.flatten.length := by
    rw [flat_len hr]
    exact Nat.mul_pos (List.length_pos_iff.2 hn) h0
  have := range_lt hc hlen
  omega
theorem RdF.grow {s : Nat} {L : List Nat} {B B' : Nat} {w w' : World} {v : Value} {rs : List (List Value)} (h : RdF s (B :: L) w v rs) (hg : GrowB B B' w w') : RdF s (B' :: L) w' v rs := by
  have hh := h
  obtain ⟨h0, hr, a, cap, h1, h2, h3, h4, h5⟩ := h
  refine ⟨h0, hr, a, cap, h1, h2, h3, h4, fun hn => ?_⟩
  obtain ⟨X, o, e, hX, hc⟩ := h5 hn
  subst h1
  have hlt := rdf_lt hh e hn
  simp only [List.mem_cons, not_or] at hX
  refine ⟨X, o, e, ?_, fun j v hj => ?_⟩
  · simp only [List.mem_cons, not_or]
    refine ⟨?_, hX.2⟩
    cases hg.new with
    | inl e => rw [e]; exact hX.1
    | inr e => omega
  · rw [← hc j v hj]
    exact World.cell?_of_block (hg.block X hlt hX.1)
/-- A slice of the call's own: its rows lie at the beginning of its block. -/
def OwS (s : Nat) (w : World) (v : Value) (rs : List (List Value)) (B : Nat) : Prop :=
  0 < s ∧ (∀ r ∈ rs, r.length = s) ∧ ∃ cap sp, v = .slice (some ⟨B, 0, none⟩) rs.length cap ∧ rs.length ≤ cap ∧ cap ≤ maxLen ∧ sp.length = (cap - rs.length) * s ∧ Blk w B (rs.flatten ++ sp)
theorem OwS.rd {s : Nat} {w : World} {v : Value} {rs : List (List Value)} {B : Nat} {L : List Nat} (h : OwS s w v rs B) (hB : B ∉ L) : RdF s L w v rs := by
  obtain ⟨h0, hr, cap, sp, rfl, h2, h3, h4, h5⟩ := h
  refine ⟨h0, hr, _, cap, rfl, h2, h3, by simp, fun _ => ⟨B, 0, rfl, hB, fun j v hj => h5.range j v ?_⟩⟩
  rw [List.getElem?_append_left (List.getElem?_eq_some_iff.1 hj).1]
  exact hj
theorem OwS.one {s : Nat} {w : World} {v : Value} {rs : List (List Value)} {B : Nat} (h : OwS s w v rs B) : v.oneCell' = true := by
  obtain ⟨_, _, cap, sp, rfl, _⟩ := h
  rfl
theorem OwS.lt {s : Nat} {w : World} {v : Value} {rs : List (List Value)} {B : Nat} (h : OwS s w v rs B) : B < w.heap.size := by
  obtain ⟨h0, hr, cap, sp, rfl, h2, h3, h4, h5⟩ := h
  exact h5.lt
theorem OwS.below {s : Nat} {w w' : World} {v : Value} {rs : List (List Value)} {B : Nat} (h : OwS s w v rs B) (hb : Below w.heap.size w w') : OwS s w' v rs B := by
  obtain ⟨h0, hr, cap, sp, h1, h2, h3, h4, h5⟩ := h
  exact ⟨h0, hr, cap, sp, h1, h2, h3, h4, h5.below hb⟩
theorem OwS.other {s : Nat} {w w' : World} {v : Value} {rs : List (List Value)} {B C : Nat} (h : OwS s w v rs B) (ho : Only C w w') (hn : B ≠ C) : OwS s w' v rs B := by
  obtain ⟨h0, hr, cap, sp, h1, h2, h3, h4, h5⟩ := h
  exact ⟨h0, hr, cap, sp, h1, h2, h3, h4, h5.other ho hn⟩
theorem flat_set {s : Nat} {rs : List (List Value)} {i : Nat} {r' : List Value} (h : ∀ r ∈ rs, r.length = s) (hr : r'.length = s) (hi : i < rs.length) (sp : List Value) :
    (rs.flatten ++ sp).take (i * s) ++ (r' ++ (rs.flatten ++ sp).drop (i * s + s)) = (rs.set i r').flatten ++ sp := by
  have hl : (rs.take i).flatten.length = i * s := by rw [flat_len (fun r hr => h r (List.mem_of_mem_take hr)), List.length_take, Nat.min_eq_left (by omega)]
  have e1 : rs.flatten = (rs.take i).flatten ++ ((rs.drop i).flatten) := by rw [← List.flatten_append, List.take_append_drop]
  have e2 : (rs.drop i).flatten = rs[i] ++ (rs.drop (i + 1)).flatten := by rw [List.drop_eq_getElem_cons hi, List.flatten_cons]
  have hri := h rs[i] (List.getElem_mem hi)
  have e3 : rs.set i r' = rs.take i ++ r' :: rs.drop (i + 1) := by rw [List.set_eq_take_append_cons_drop, if_pos hi]
  rw [e3, List.flatten_append, List.flatten_cons, e1, e2]
  simp only [List.append_assoc]
  rw [← hl, List.take_left, List.drop_append, List.drop_eq_nil_of_le (by omega), List.nil_append, Nat.add_sub_cancel_left, ← hri, List.drop_left]
section
variable {P : Program} {ops : Array Oper} {o : Oper} {N : Nat} {f : Fl} {w : World}
/-- The place of an element of a slice of the call's own. -/
theorem dx_idxO {t s B : Nat} {x y : Operand} {v : Value} {rs : List (List Value)} {K : IntKind} {i : Int} (k : Nat) {o1 : Nat} (ho : o.op = .indexAddr t x y) (ht : sliceB P t s = true) (hx : ev f x = some v) (hy : ev f y = some (.int K i)) (hr : OwS s w v rs B) (hk : i = (k : Int)) (hi : k < rs.length) (h1 : k * s = o1) (hw : wantF ops o f = some true := by rfl) :
    DV P ops o N f w (.pointer (some ⟨B, o1, none⟩)) := fun a ha => by
  obtain ⟨h0, hl, cap, sp, rfl, h2, h3, h4, h5⟩ := hr
  obtain ⟨e, hu, hs⟩ := of_sliceB ht
  have hx := ha.ev hx
  have hy := ha.ev hy
  subst hk
  have hrun := run_idxS (w := w) (n := rs.length) (c := cap) hu hs B 0 K (k : Int) (by omega) (by omega)
  refine Does.pure (wantF_of ha hw) _ (by unfold execOp; simp only [ho, hx, hy, Sem.run_bind, hrun, Result.andThen_ok]; rfl) ⟨?_, rfl⟩
  rw [← h1]; simp
theorem dx_lenO {t s s' B : Nat} {x : Operand} {v : Value} {rs : List (List Value)} (ho : o.op = .call { callee := .builtin .len, args := #[x], argTypes := #[t] }) (ht : sliceB P t s' = true) (hx : ev f x = some v) (hr : OwS s w v rs B) (hw : wantF ops o f = some true := by rfl) : DV P ops o N f w (.int .i64 (rs.length : Int)) := by
  obtain ⟨_, _, cap, sp, rfl, _⟩ := hr
  obtain ⟨e, hu, _⟩ := of_sliceB ht
  exact dx_len ho hu hx hw
/-- An element of a slice of the call's own, loaded whole. -/
theorem dx_loadO {t s B k o0 : Nat} {x : Operand} {v : Value} {rs : List (List Value)} {r : List Value} (ho : o.op = .load t x) (ht : aggB P t s = true) (hx : ev f x = some (.pointer (some ⟨B, o0, none⟩))) (hr : OwS s w v rs B) (hk : k * s = o0) (hi : rs[k]? = some r) (hw : wantF ops o f = some true := by rfl) : DV P ops o N f w (.agg r.toArray) := by
  obtain ⟨h0, hl, cap, sp, rfl, h2, h3, h4, h5⟩ := hr
  have hlt := (List.getElem?_eq_some_iff.1 hi).1
  have hc := h5.part (k * s) s
  have hf := flat_row hl hi
  have e : ((rs.flatten ++ sp).drop (k * s)).take s = r := by
    have hlen : (k + 1) * s ≤ rs.flatten.length := by rw [flat_len hl]; exact Nat.mul_le_mul_right _ hlt
    rw [Nat.succ_mul] at hlen
    rw [List.drop_append_of_le_length (by omega), List.take_append_of_le_length (by rw [List.length_drop]; omega)]
    exact hf
  rw [e, hk] at hc
  exact dx_loadN ho ht hx hc (hl r (List.mem_of_getElem? hi)) hw
/-- An element of a slice of the call's own, stored whole. -/
theorem dx_storeO {t s B k o0 : Nat} {x y : Operand} {V v : Value} {rs : List (List Value)} {r : List Value} (ho : o.op = .store t x y) (ht : sizeB P t s = true) (hx : ev f x = some (.pointer (some ⟨B, o0, none⟩))) (hy : ev f y = some V) (hv : V.cells.toList = r) (h1 : ∀ v ∈ r, v.oneCell' = true)
    (hr : OwS s w v rs B) (hk : k * s = o0) (hi : k < rs.length) (hl : r.length = s) (hw : wantF ops o f = some true := by rfl) : DR P ops o N f w fun _ W => OwS s W v (rs.set k r) B ∧ Only B w W := by
  obtain ⟨h0, hrl, cap, sp, rfl, h2, h3, h4, h5⟩ := hr
  have hlen : (k + 1) * s ≤ rs.flatten.length := by rw [flat_len hrl]; exact Nat.mul_le_mul_right _ hi
  rw [Nat.succ_mul] at hlen
  refine (dx_store (cs' := (rs.set k r).flatten ++ sp) ho ht hx hy hv h1 h5 hl (by rw [List.length_append]; omega) (by rw [← hk]; exact flat_set hrl hl hi sp) hw).mono fun _ W h => ⟨⟨h0, fun r' hr' => ?_, cap, sp, by rw [List.length_set], by rw [List.length_set]; exact h2, h3, by rw [List.length_set]; exact h4, h.1⟩, h.2⟩
  rcases List.mem_or_eq_of_mem_set hr' with h | h
  · exact hrl r' h
  · rw [h]; exact hl
/-- A slice that is written out. -/
theorem run_buildSlice {t e : TypeId} (hu : P.underlying t = some (.slice e)) {i : TypeInfo} (hi : P.info? e = some i) {Z : Value} (hz : i.zero = some Z) (len : Nat) (parts : Array (Nat × Value)) (hlen : len * i.size ≤ 16777216) {cs : Array Value}
    (hf : Instr.fill (fun k => some (k * i.size, i.size)) (if len * i.size = 0 then #[] else (Array.range (len * i.size)).map (Z.cells[· % Z.cells.size]!)) parts.toList = some cs) :
    (Instr.buildSlice t len parts).run P w = .ok (.slice (some ⟨w.heap.size, 0, none⟩) len len) (w.alloc (.cells cs e)) := by
  have hn : ¬ len * i.size > 2 ^ 24 := by omega
  unfold Instr.buildSlice
  simp only [Sem.run_bind, run_underlying hu, Result.andThen_ok, sizeOf, typeInfo, run_program, hi, Sem.run_pure, if_neg hn]
  by_cases h0 : len * i.size = 0
  · rw [if_pos h0] at hf
    have e0 : Array.map (fun x => (#[] : Array Value)[x % (#[] : Array Value).size]!) (Array.range (len * i.size)) = #[] := by rw [h0]; simp
    simp only [if_pos h0, Sem.run_pure, Result.andThen_ok, e0, hf, newRow, Sem.run_bind, run_newObj_alloc]
  · rw [if_neg h0] at hf
    simp only [if_neg h0, zeroValue, typeInfo, Sem.run_bind, run_program, hi, hz, Sem.run_pure, Result.andThen_ok, hf, newRow, run_newObj_alloc]
theorem newB_row (w : World) (t : TypeId) (cs : List Value) : Blk (w.alloc (.cells cs.toArray t)) w.heap.size cs ∧ Below w.heap.size w (w.alloc (.cells cs.toArray t)) ∧ w.heap.size < (w.alloc (.cells cs.toArray t)).heap.size :=
  ⟨⟨t, by rw [heap_alloc_new]⟩, (Below.refl _ _).alloc (Nat.le_refl _) _, (Array.getElem?_eq_some_iff.1 (heap_alloc_new w _)).1⟩
/-- What a slice is that is newly made. -/
def NewO (s : Nat) (w : World) (rs : List (List Value)) (u : Value) (W : World) : Prop := OwS s W u rs w.heap.size ∧ Below w.heap.size w W ∧ w.heap.size < W.heap.size
theorem dx_lit {t len s : Nat} {parts : Array (Nat × Operand)} {e : TypeId} {i : TypeInfo} {Z : Value} {ps : List (Nat × Value)} {rs : List (List Value)} (ho : o.op = .buildSlice t len parts) (hu : P.underlying t = some (.slice e)) (hi : P.info? e = some i) (hz : i.zero = some Z) (hs : i.size = s) (h0 : 0 < s)
    (hp : (evl f (parts.toList.map (·.2))).map (fun vs => (parts.toList.map (·.1)).zip vs) = some ps) (hlen : len * s ≤ 16777216)
    (hf : Instr.fill (fun k => some (k * s, s)) (if len * s = 0 then #[] else (Array.range (len * s)).map (Z.cells[· % Z.cells.size]!)) ps = some rs.flatten.toArray) (hrs : ∀ r ∈ rs, r.length = s) (hl : rs.length = len) (hm : len ≤ maxLen) (hw : wantF ops o f = some true := by rfl) : DR P ops o N f w (NewO s w rs) := fun a ha => by
  have key : (parts.map fun (i, x) => (i, a.eval x)).toList = ps := by
    cases hq : evl f (parts.toList.map (·.2)) with
    | none => rw [hq] at hp; cases hp
    | some vs =>
      rw [hq] at hp
      have h1 := ha.evl hq
      simp only [Option.map_some, Option.some.injEq] at hp
      rw [← hp, ← h1, Array.toList_map]
      clear hp h1 hq ho
      induction parts.toList with
      | nil => rfl
      | cons p l ih => simp only [List.map_cons, List.zip_cons_cons, List.cons.injEq, true_and]; exact ih
  subst hs
  have hrun := run_buildSlice (w := w) hu hi hz len (parts.map fun (i, x) => (i, a.eval x)) hlen (cs := rs.flatten.toArray) (by rw [key]; exact hf)
  exact Does.of_wp (wantF_of ha hw) fun K hK => by
    unfold Oper.wp execOp
    simp only [ho, Sem.run_bind, hrun, Sem.run_pure, Result.andThen_ok]
    obtain ⟨n1, n2, n3⟩ := newB_row w e rs.flatten
    exact hK _ _ ⟨⟨h0, hrs, len, [], by rw [hl], by omega, hm, by simp [hl], by simpa using n1⟩, n2, n3⟩
theorem run_ap_room {t ty e t' : TypeId} {i : TypeInfo} (ht : P.underlying t = some (.slice e)) (hi : P.info? e = some i)
    (g sLen sCap : Nat) (cur : Array Value) (hg : w.heap[g]? = some (.cells cur t' (0, 0)))
    (a : Addr) (m c : Nat) (news : List Value) (hl : news.length = m * i.size) (hnews : ∀ j u, news[j]? = some u → w.cell? (a.add j) = some u) (h1 : ∀ u ∈ news, u.oneCell' = true)
    (hroom : sLen + m ≤ sCap) (hfit : sLen * i.size + news.length ≤ cur.size) :
    (Builtin.append_ #[t, t] ty #[.slice (some ⟨g, 0, none⟩) sLen sCap, .slice (some a) m c]).run P w =
      .ok (.slice (some ⟨g, 0, none⟩) (sLen + m) sCap) (w.setRow g (cur.toList.take (sLen * i.size) ++ news ++ cur.toList.drop (sLen * i.size + news.length)).toArray) := by
  have hf := run_firstCells_some (P := P) w i.size m a m c news hl hnews
  have hst := run_storeCells_at P g (sLen * i.size) t' news 0 cur w hg (by simpa using hfit) h1
  simp only [Nat.add_zero] at hst
  simp [Builtin.append_, run_underlying ht, sizeOf, typeInfo, hi, Builtin.lenOf, hroom, hf, addr_at, hst]
/-- An append to a slice of the call's own. -/
theorem run_apO {t ty e : TypeId} (hu : P.underlying t = some (.slice e)) {i : TypeInfo} (hi : P.info? e = some i) {Z : Value} (hz : i.zero = some Z) (hzs : Z.cells.size = i.size) {B : Nat} {v v2 : Value} {rs news : List (List Value)} {L : List Nat}
    (h : OwS i.size w v rs B) (h2 : RdF i.size L w v2 news) (h1 : ∀ r ∈ news, ∀ u ∈ r, u.oneCell' = true) (hm : rs.length + news.length ≤ maxLen) (hby : (rs.length + news.length) * i.bytes ≤ 140737488355328) :
    ∃ v' w' B', (Builtin.append_ #[t, t] ty #[v, v2]).run P w = .ok v' w' ∧ OwS i.size w' v' (rs ++ news) B' ∧ GrowB B B' w w' := by
  obtain ⟨h0, hl, cap, sp, rfl, hc1, hc2, hc3, hb⟩ := h
  obtain ⟨_, hl2, a2, cap2, rfl, hd1, hd2, hd3, hd4⟩ := h2
  have hlr : ∀ r ∈ rs ++ news, r.length = i.size := fun r hr => by
    rcases List.mem_append.1 hr with h | h
    · exact hl r h
    · exact hl2 r h
  by_cases hn : news = []
  · subst hn
    refine ⟨.slice (some ⟨B, 0, none⟩) rs.length cap, w, B, ?_, ⟨h0, hlr, cap, sp, by simp, by simpa using hc1, hc2, by simpa using hc3, by simpa using hb⟩, ⟨rfl, rfl, rfl, Nat.le_refl _, fun _ _ _ => rfl, .inl rfl⟩⟩
    obtain ⟨tt, hb'⟩ := hb
    cases a2 with
    | none =>
      obtain rfl := hd3 rfl
      simp [Builtin.append_, run_underlying hu, sizeOf, typeInfo, hi, Builtin.lenOf, hc1, Builtin.firstCells, storeCells]
    | some a2 =>
      simp [Builtin.append_, run_underlying hu, sizeOf, typeInfo, hi, Builtin.lenOf, hc1, Builtin.firstCells, loadCells, loadCellsFrom, storeCells]
  · obtain ⟨X, o0, rfl, hX, hc⟩ := hd4 hn
    obtain ⟨tt, hb'⟩ := hb
    have hnews : ∀ j u, news.flatten[j]? = some u → w.cell? ((⟨X, o0, none⟩ : Addr).add j) = some u := fun j u hj => by rw [addr_at]; exact hc j u hj
    have hflat : news.flatten.length = news.length * i.size := flat_len hl2
    have h1' : ∀ u ∈ news.flatten, u.oneCell' = true := fun u hu => by
      obtain ⟨r, hr, hur⟩ := List.mem_flatten.1 hu
      exact h1 r hr u hur
    have hfl : rs.flatten.length = rs.length * i.size := flat_len hl
    by_cases hroom : rs.length + news.length ≤ cap
    · have hle : news.length * i.size ≤ sp.length := by
        rw [hc3]
        exact Nat.mul_le_mul_right _ (by omega)
      have hr := run_ap_room (P := P) (w := w) (t := t) (ty := ty) hu hi B rs.length cap _ hb' ⟨X, o0, none⟩ news.length cap2 news.flatten hflat hnews h1' hroom (by rw [List.size_toArray, List.length_append, hflat, hfl]; omega)
      refine ⟨_, _, B, hr, ⟨h0, hlr, cap, sp.drop news.flatten.length, by rw [List.length_append], by rw [List.length_append]; exact hroom, hc2, ?_, ⟨tt, ?_⟩⟩, GrowB.of_only (only_setRow w B _)⟩
      · rw [List.length_drop, List.length_append, hc3, hflat, ← Nat.sub_mul]
        congr 1
        omega
      · rw [setRow_heap w B _ _ tt _ hb']
        congr 3
        simp only [List.flatten_append, List.append_assoc]
        rw [← hfl, List.take_left, List.drop_append, List.drop_eq_nil_of_le (by omega), List.nil_append, Nat.add_sub_cancel_left]
    · have holds : ∀ j u, rs.flatten[j]? = some u → w.cell? ((⟨B, 0, none⟩ : Addr).add j) = some u := fun j u hj => by
        have := (Blk.range ⟨tt, hb'⟩) j u (by rw [List.getElem?_append_left (List.getElem?_eq_some_iff.1 hj).1]; exact hj)
        rw [addr_at]; exact this
      have hsmall : rs.length + news.length ≤ 9223372036854775807 := by unfold maxLen at hm; omega
      have hr := run_append_grow (P := P) w t ty e i Z hu hi hz ⟨B, 0, none⟩ rs.length cap rs.flatten hfl holds ⟨X, o0, none⟩ news.length cap2 news.flatten hflat hnews (by omega) (by omega) (growslice_fits (by omega) hby)
      refine ⟨_, _, w.heap.size, hr, ⟨h0, hlr, grownCap w (rs.length + news.length) cap e, (Builtin.zeroCells Z.cells (grownCap w (rs.length + news.length) cap e - (rs.length + news.length))).toList, by rw [List.length_append], by rw [List.length_append]; exact grownCap_ge _ _ _ _, grownCap_le_maxLen _ _ _ _ hm, ?_, ⟨e, ?_⟩⟩, ?_⟩
      · rw [Array.length_toList, size_zeroCells, hzs, List.length_append]
      · rw [show w.heap.size = w.drew.heap.size from (World.size_drew w).symm, heap_alloc_new]
        congr 2
        apply Array.ext'
        simp
      · exact GrowB.of_below (below_alloc (below_draws (Below.refl _ _) 1) _)
/-- What is asked of an element's type ahead of an append. -/
def apB (P : Program) (t s bytes : Nat) : Bool := match P.underlying t with
  | some (.slice e) => match P.info? e with
    | some i => i.size == s && i.bytes == bytes && (match i.zero with | some z => z.cells.size == s | none => false)
    | none => false
  | _ => false
theorem of_apB {t s bytes : Nat} (h : apB P t s bytes = true) : ∃ e i Z, P.underlying t = some (.slice e) ∧ P.info? e = some i ∧ i.zero = some Z ∧ i.size = s ∧ i.bytes = bytes ∧ Z.cells.size = i.size := by
  unfold apB at h
  split at h
  · rename_i e hu
    split at h
    · rename_i i hi
      simp only [Bool.and_eq_true, beq_iff_eq] at h
      obtain ⟨⟨h1, h2⟩, h3⟩ := h
      split at h3
      · rename_i z hz
        exact ⟨e, i, z, hu, hi, hz, h1, h2, by rw [h1]; simpa using h3⟩
      · cases h3
    · cases h
  · cases h
/-- What an append leaves. -/
def GrO (s B : Nat) (w : World) (rs : List (List Value)) (u : Value) (W : World) : Prop := ∃ B', OwS s W u rs B' ∧ GrowB B B' w W
theorem dx_apO {t s bytes B : Nat} {x y : Operand} {v v2 : Value} {rs news : List (List Value)} {L : List Nat} (ho : o.op = .call { callee := .builtin .append, args := #[x, y], argTypes := #[t, t] }) (ht : apB P t s bytes = true) (hx : ev f x = some v) (hy : ev f y = some v2) (hB : B ∈ L)
    (h : OwS s w v rs B) (h2 : RdF s L w v2 news) (h1 : ∀ r ∈ news, ∀ u ∈ r, u.oneCell' = true) (hm : rs.length + news.length ≤ maxLen) (hby : (rs.length + news.length) * bytes ≤ 140737488355328) (hw : wantF ops o f = some true := by rfl) : DR P ops o N f w (GrO s B w (rs ++ news)) := fun a ha => by
  obtain ⟨e, i, Z, hu, hi, hz, rfl, rfl, hzs⟩ := of_apB ht
  have hx := ha.ev hx
  have hy := ha.ev hy
  obtain ⟨v', w', B', hr, h3, h4⟩ := run_apO (w := w) (t := t) (ty := o.type) hu hi hz hzs h h2 h1 hm hby
  exact Does.of_wp (wantF_of ha hw) fun K hK => by
    unfold Oper.wp execOp
    simp only [ho, resolve, invoke, builtin, Sem.run_bind, Sem.run_pure, Result.andThen_ok, List.map_toArray, List.map_cons, List.map_nil, hx, hy, hr]
    exact hK _ _ ⟨B', h3, h4⟩
/-- An append of something to a slice that is full: what comes is new. -/
theorem dx_apF {t s bytes : Nat} {x y : Operand} {v2 : Value} {a1 : Option Addr} {rs news : List (List Value)} {L : List Nat} (ho : o.op = .call { callee := .builtin .append, args := #[x, y], argTypes := #[t, t] }) (ht : apB P t s bytes = true) (hx : ev f x = some (.slice a1 rs.length rs.length)) (hy : ev f y = some v2)
    (h : RdF s L w (.slice a1 rs.length rs.length) rs) (h2 : RdF s L w v2 news) (hn : news ≠ []) (hm : rs.length + news.length ≤ maxLen) (hby : (rs.length + news.length) * bytes ≤ 140737488355328) (hw : wantF ops o f = some true := by rfl) : DR P ops o N f w (NewO s w (rs ++ news)) := fun a ha => by
  obtain ⟨e, i, Z, hu, hi, hz, rfl, rfl, hzs⟩ := of_apB ht
  have hx := ha.ev hx
  have hy := ha.ev hy
  obtain ⟨h0, hl, ad, cap, he, hc1, hc2, hc3, hc4⟩ := h
  obtain ⟨_, hl2, a2, cap2, rfl, hd1, hd2, hd3, hd4⟩ := h2
  simp only [Value.slice.injEq, true_and] at he
  obtain ⟨rfl, rfl⟩ := he
  have hlr : ∀ r ∈ rs ++ news, r.length = i.size := fun r hr => by
    rcases List.mem_append.1 hr with h | h
    · exact hl r h
    · exact hl2 r h
  obtain ⟨X, o0, rfl, hX, hc⟩ := hd4 hn
  have hpos : 0 < news.length := List.length_pos_iff.2 hn
  have hnews : ∀ j u, news.flatten[j]? = some u → w.cell? ((⟨X, o0, none⟩ : Addr).add j) = some u := fun j u hj => by rw [addr_at]; exact hc j u hj
  have hflat : news.flatten.length = news.length * i.size := flat_len hl2
  have hfl : rs.flatten.length = rs.length * i.size := flat_len hl
  have hsmall : rs.length + news.length ≤ 9223372036854775807 := by unfold maxLen at hm; omega
  have fin : ∀ cap', rs.length + news.length ≤ cap' → cap' ≤ maxLen → NewO i.size w (rs ++ news) (.slice (some ⟨w.heap.size, 0, none⟩) (rs.length + news.length) cap') (w.drew.alloc (.cells ((rs ++ news).flatten ++ (Builtin.zeroCells Z.cells (cap' - (rs.length + news.length))).toList).toArray e)) := fun cap' hcap1 hcap2 => by
    refine ⟨⟨h0, hlr, cap', (Builtin.zeroCells Z.cells (cap' - (rs.length + news.length))).toList, by rw [List.length_append], by rw [List.length_append]; exact hcap1, hcap2, ?_, ⟨e, ?_⟩⟩, below_alloc (below_draws (Below.refl _ _) 1) _, ?_⟩
    · rw [Array.length_toList, size_zeroCells, hzs, List.length_append]
    · rw [show w.heap.size = w.drew.heap.size from (World.size_drew w).symm, heap_alloc_new]
    · rw [show w.heap.size = w.drew.heap.size from (World.size_drew w).symm]; exact (Array.getElem?_eq_some_iff.1 (heap_alloc_new _ _)).1
  refine Does.of_wp (wantF_of ha hw) fun K hK => ?_
  have main : ∃ cap', rs.length + news.length ≤ cap' ∧ cap' ≤ maxLen ∧ (Builtin.append_ #[t, t] o.type #[.slice a1 rs.length rs.length, .slice (some ⟨X, o0, none⟩) news.length cap2]).run P w = .ok (.slice (some ⟨w.heap.size, 0, none⟩) (rs.length + news.length) cap') (w.drew.alloc (.cells ((rs ++ news).flatten ++ (Builtin.zeroCells Z.cells (cap' - (rs.length + news.length))).toList).toArray e)) := by
    cases a1 with
    | none =>
      have hz0 := hc3 rfl
      have hrs : rs = [] := List.length_eq_zero_iff.1 hz0
      subst hrs
      have hr := run_append_nil (P := P) w t o.type e i Z hu hi hz ⟨X, o0, none⟩ news.length cap2 news.flatten hflat hnews hpos (by omega) (by simp only [List.length_nil, Nat.zero_add] at hby; omega)
      refine ⟨grownCap w news.length 0 e, by simpa using grownCap_ge _ _ _ _, grownCap_le_maxLen _ _ _ _ (by simpa using hm), ?_⟩
      simp only [List.length_nil, Nat.zero_add]
      rw [hr]
      congr 3
      congr 1
      apply Array.ext'
      simp
    | some b =>
      have holds : ∀ j u, rs.flatten[j]? = some u → w.cell? (b.add j) = some u := fun j u hj => by
        have hne : rs ≠ [] := by intro e; subst e; simp at hj
        obtain ⟨X', o', e, _, hc'⟩ := hc4 hne
        cases e
        rw [addr_at]; exact hc' j u hj
      have hr := run_append_grow (P := P) w t o.type e i Z hu hi hz b rs.length rs.length rs.flatten hfl holds ⟨X, o0, none⟩ news.length cap2 news.flatten hflat hnews (by omega) (by omega) (growslice_fits (by omega) hby)
      refine ⟨grownCap w (rs.length + news.length) rs.length e, grownCap_ge _ _ _ _, grownCap_le_maxLen _ _ _ _ hm, ?_⟩
      rw [hr]
      congr 3
      apply Array.ext'
      simp
  obtain ⟨cap', k1, k2, k3⟩ := main
  unfold Oper.wp execOp
  simp only [ho, resolve, invoke, builtin, Sem.run_bind, Sem.run_pure, Result.andThen_ok, List.map_toArray, List.map_cons, List.map_nil, hx, hy, k3]
  exact hK _ _ (fin cap' k1 k2)
/-- A slice of noughts. -/
theorem dx_make {t s bytes : Nat} {x y : Operand} {K : IntKind} {n : Int} {r : List Value} (ho : o.op = .makeSlice t x y) (ht : apB P t s bytes = true) (hz : ∀ e, P.underlying t = some (.slice e) → (P.info? e).bind (fun i => i.zero.map (·.cells.toList)) = some r) (hx : ev f x = some (.int K n)) (hy : ev f y = some (.int K n)) (h0 : 0 ≤ n) (hs : 0 < s) (hb : bytes * n ≤ 140737488355328) (hm : n ≤ maxLen) (hw : wantF ops o f = some true := by rfl) :
    DR P ops o N f w (NewO s w (List.replicate n.toNat r)) := fun a ha => by
  obtain ⟨e, i, Z, hu, hi, hZ, rfl, rfl, hzs⟩ := of_apB ht
  have hx := ha.ev hx
  have hy := ha.ev hy
  have hr := hz e hu
  rw [hi] at hr
  simp only [Option.bind_some, hZ, Option.map_some, Option.some.injEq] at hr
  have hrun := run_make (P := P) w t e i Z hu hi hZ K K n n h0 (Int.le_refl _) (by omega) (by unfold maxLen at hm; omega)
  have hrl : r.length = i.size := by rw [← hr, Array.length_toList, hzs]
  have hcs : madeCells Z.cells (n.toNat * i.size) = (List.replicate n.toNat r).flatten.toArray := by
    apply Array.ext
    · rw [size_madeCells, List.size_toArray, flat_len (s := i.size) (fun r' hr' => by rw [(List.mem_replicate.1 hr').2]; exact hrl), List.length_replicate]
    · intro j h1 h2
      rw [size_madeCells] at h1
      have hjs : j % i.size < i.size := Nat.mod_lt _ hs
      have hjd : j / i.size < n.toNat := (Nat.div_lt_iff_lt_mul hs).2 h1
      have hrow := flat_row (rs := List.replicate n.toNat r) (s := i.size) (i := j / i.size) (r := r) (fun r' hr' => by rw [(List.mem_replicate.1 hr').2]; exact hrl) (by rw [List.getElem?_replicate, if_pos hjd])
      have hg : (List.replicate n.toNat r).flatten[j]? = r[j % i.size]? := by
        conv => rhs; rw [← hrow]
        rw [List.getElem?_take, if_pos hjs, List.getElem?_drop]
        congr 1
        have := Nat.div_add_mod j i.size
        rw [Nat.mul_comm] at this
        exact this.symm
      have hzj : j % Z.cells.size < Z.cells.size := by rw [hzs]; exact hjs
      simp only [madeCells, Array.getElem_map, Array.getElem_range]
      rw [getElem!_pos Z.cells _ hzj]
      have h3 : (List.replicate n.toNat r).flatten.toArray[j]? = some ((List.replicate n.toNat r).flatten.toArray[j]) := Array.getElem?_eq_getElem h2
      have h4 : r[j % i.size]? = some (Z.cells[j % Z.cells.size]) := by
        have h5 : r[j % i.size]? = Z.cells.toList[j % i.size]? := by rw [hr]
        rw [h5, Array.getElem?_toList, ← Array.getElem?_eq_getElem hzj, hzs]
      rw [List.getElem?_toArray, hg, h4] at h3
      exact Option.some.inj h3
  exact Does.of_wp (wantF_of ha hw) fun KK hK => by
    unfold Oper.wp execOp
    simp only [ho, hx, hy, Sem.run_bind, hrun, Sem.run_pure, Result.andThen_ok]
    rw [hcs]
    obtain ⟨n1, n2, n3⟩ := newB_row w e (List.replicate n.toNat r).flatten
    exact hK _ _ ⟨⟨hs, fun r' hr' => by rw [(List.mem_replicate.1 hr').2]; exact hrl, n.toNat, [], by rw [List.length_replicate], by rw [List.length_replicate]; omega, by omega, by simp, by simpa using n1⟩, n2, n3⟩
end

/-- A block of the call's own, and its type. -/
def BlkT (w : World) (B t : Nat) (cs : List Value) : Prop := w.heap[B]? = some (.cells cs.toArray t (0, 0))
theorem BlkT.blk {w : World} {B t : Nat} {cs : List Value} (h : BlkT w B t cs) : Blk w B cs := ⟨t, h⟩
theorem BlkT.ne {w : World} {B C t t' : Nat} {cs cs' : List Value} (h : BlkT w B t cs) (h' : BlkT w C t' cs') (hn : (t == t') = false) : B ≠ C := fun e => by
  subst e
  unfold BlkT at h h'
  rw [h] at h'
  simp only [Option.some.injEq, Obj.cells.injEq] at h'
  rw [h'.2.1] at hn
  simp at hn
def NewP (base t : Nat) (cs : List Value) (u : Value) (w : World) : Prop := ∃ B, u = .pointer (some ⟨B, 0, none⟩) ∧ base ≤ B ∧ BlkT w B t cs
theorem NewP.below {base t : Nat} {cs : List Value} {u : Value} {w w' : World} (h : NewP base t cs u w) (hb : Below w.heap.size w w') : NewP base t cs u w' := by
  obtain ⟨B, h1, h2, h3⟩ := h
  exact ⟨B, h1, h2, by unfold BlkT; rw [hb.block B h3.blk.lt]; exact h3⟩
theorem LL.cons {L : List Nat} {w : World} {B : Nat} (h : LL L w) (hB : B < w.heap.size) : LL (B :: L) w := fun x hx => by
  cases hx with
  | head => exact hB
  | tail _ hx => exact h x hx
theorem LL.notin {L : List Nat} {w : World} (h : LL L w) {B : Nat} (hB : w.heap.size ≤ B) : B ∉ L := fun hx => by have := h B hx; omega
theorem OwS.notin {s : Nat} {w0 w : World} {v : Value} {rs : List (List Value)} {B : Nat} {L : List Nat} (h : OwS s w v rs B) (hL : LL L w0) (hB : w0.heap.size ≤ B) : RdF s L w v rs := h.rd (hL.notin hB)
section
variable {P : Program} {ops : Array Oper} {o : Oper} {N : Nat} {f : Fl} {w : World}
theorem dx_allocP {t : TypeId} {Z : Value} {cs : List Value} (ho : o.op = .alloc t) (hz : (P.info? t).bind (·.zero) = some Z) (hc : Z.cells.toList = cs) (hw : wantF ops o f = some true := by rfl) : DR P ops o N f w (fun u W => Below w.heap.size w W ∧ ∀ {w0 : World}, Below w0.heap.size w0 w → NewP w0.heap.size t cs u W) := fun a ha => by
  subst hc
  exact Does.of_wp (wantF_of ha hw) fun K hK => by
    cases hi : P.info? t with
    | none => rw [hi] at hz; cases hz
    | some i =>
      rw [hi] at hz
      have hz' : i.zero = some Z := hz
      have hti : (typeInfo t).run P w = .ok i w := by simp [typeInfo, hi]
      unfold Oper.wp execOp
      simp only [ho, Sem.run_bind, Instr.alloc, zeroValue, hti, hz', newVar, newRow, run_newObj_alloc, Sem.run_pure, Result.andThen_ok]
      obtain ⟨h1, h2, h3, h4⟩ := newB_alloc w t Z
      refine hK _ _ ⟨h3, fun hb => ⟨_, rfl, hb.size, ?_⟩⟩
      unfold BlkT
      rw [heap_alloc_new]
/-- A slice of its whole length, with no room behind it. -/
theorem dx_clip {t s : Nat} {L : List Nat} {x y z : Operand} {v : Value} {rs : List (List Value)} {n : Int} (ho : o.op = .slice t x none (some y) (some z)) (ht : sliceB P t s = true) (hx : ev f x = some v) (hr : RdF s L w v rs) (hy : ev f y = some (.int .i64 n)) (hz : ev f z = some (.int .i64 n)) (hn : n = (rs.length : Int)) (hw : wantF ops o f = some true := by rfl) :
    DR P ops o N f w fun u W => w = W ∧ ∃ a, u = .slice a rs.length rs.length ∧ RdF s L w u rs := fun a ha => by
  subst hn
  obtain ⟨h0, hl, ad, cap, rfl, h2, h3, h4, h5⟩ := hr
  obtain ⟨e, hu, hs⟩ := of_sliceB ht
  have hx := ha.ev hx
  have hy := ha.ev hy
  have hz := ha.ev hz
  have hadd : (ad.map (·.add (0 * s))) = ad := by
    cases ad with
    | none => rfl
    | some b =>
      by_cases hn : rs = []
      · subst hn
        simp [Addr.add]
      · obtain ⟨X, o, e, _⟩ := h5 hn
        cases e
        simp [addr_at]
  cases hi : P.info? e with
  | none => rw [hi] at hs; cases hs
  | some q =>
    have hq : q.size = s := by simpa [hi] using hs
    refine Does.pure (wantF_of ha hw) (.slice ad rs.length rs.length) ?_ ⟨rfl, ad, rfl, h0, hl, ad, rs.length, rfl, Nat.le_refl _, by omega, fun h => by have := h4 h; omega, h5⟩
    have hlen : ((rs.length : Int) ≤ (cap : Int)) := by omega
    unfold execOp
    simp only [ho, Option.map_none, Option.map_some, hx, hy, hz, Instr.sliceAt, Sem.run_bind, run_underlying hu, Result.andThen_ok, Instr.slice, Instr.sliceBounds, Instr.sliceBound, asIntOf, Sem.run_pure, sizeOf, typeInfo, run_program, hi]
    simp [hlen, hq, Int.le_refl]
    intro hne
    have := hadd
    simp only [Nat.zero_mul] at this
    exact this
theorem dx_max {x y : Operand} {ts : Array TypeId} {K : IntKind} {m n : Int} (ho : o.op = .call { callee := .builtin .max, args := #[x, y], argTypes := ts }) (hx : ev f x = some (.int K m)) (hy : ev f y = some (.int K n)) (hw : wantF ops o f = some true := by rfl) : DV P ops o N f w (.int K (if m < n then n else m)) := fun a ha => by
  have hx := ha.ev hx
  have hy := ha.ev hy
  refine Does.pure (wantF_of ha hw) _ ?_ ⟨rfl, rfl⟩
  unfold execOp
  simp only [ho, resolve, invoke, builtin, Sem.run_bind, Sem.run_pure, Result.andThen_ok, List.map_toArray, List.map_cons, List.map_nil, hx, hy, Builtin.max_, List.foldlM_cons, List.foldlM_nil, Builtin.max2]
theorem dx_min {x y : Operand} {ts : Array TypeId} {K : IntKind} {m n : Int} (ho : o.op = .call { callee := .builtin .min, args := #[x, y], argTypes := ts }) (hx : ev f x = some (.int K m)) (hy : ev f y = some (.int K n)) (hw : wantF ops o f = some true := by rfl) : DV P ops o N f w (.int K (if n < m then n else m)) := fun a ha => by
  have hx := ha.ev hx
  have hy := ha.ev hy
  refine Does.pure (wantF_of ha hw) _ ?_ ⟨rfl, rfl⟩
  unfold execOp
  simp only [ho, resolve, invoke, builtin, Sem.run_bind, Sem.run_pure, Result.andThen_ok, List.map_toArray, List.map_cons, List.map_nil, hx, hy, Builtin.min_, List.foldlM_cons, List.foldlM_nil, Builtin.min2]
theorem eqIn_nil {t : TypeId} {e : TypeId} (hu : P.underlying t = some (.slice e)) (d : Nat) (a : Addr) (n c : Nat) : (Op.equalIn (d + 1) t (.slice (some a) n c) (.slice none 0 0)).run P w = .ok false w := by
  simp [Op.equalIn, run_underlying hu]
theorem dx_nilF {t t' s : Nat} {L : List Nat} {x : Operand} {v : Value} {rs : List (List Value)} {e : TypeId} (ho : o.op = .binOp .eql t x (.const (.slice none 0 0)) t') (hu : P.underlying t = some (.slice e)) (hx : ev f x = some v) (hr : RdF s L w v rs) (hn : rs ≠ []) (hw : wantF ops o f = some true := by rfl) : DV P ops o N f w (.bool false) := fun a ha => by
  obtain ⟨h0, hl, ad, cap, rfl, h2, h3, h4, h5⟩ := hr
  obtain ⟨X, o0, rfl, _, _⟩ := h5 hn
  have hx := ha.ev hx
  have e1 : binOp .eql t (.slice (some ⟨X, o0, none⟩) rs.length cap) (.slice none 0 0) = (do pure (.bool (← Op.equal t (.slice (some ⟨X, o0, none⟩) rs.length cap) (.slice none 0 0)))) := rfl
  have e2 : (Op.equal t (.slice (some ⟨X, o0, none⟩) rs.length cap) (.slice none 0 0)).run P w = .ok false w := eqIn_nil hu 9999 _ _ _
  exact Does.pure (wantF_of ha hw) _ (by unfold execOp; simp only [ho, hx, eval_c, eqGuard, Sem.run_bind, Sem.run_pure, Result.andThen_ok, e1]; show ((((Sem.run P (Op.equal t (Value.slice (some { block := X, off := o0 }) rs.length cap) (Value.slice none 0 0)) w).andThen fun a w' => Result.ok (Value.bool a) w').andThen fun a w' => Result.ok (Next.value a) w') = _); rw [e2]; rfl) ⟨rfl, rfl⟩
theorem dx_lit0 {t s bytes : Nat} (ho : o.op = .buildSlice t 0 #[]) (ht : apB P t s bytes = true) (h0 : 0 < s) (hw : wantF ops o f = some true := by rfl) : DR P ops o N f w (NewO s w []) := by
  obtain ⟨e, i, Z, hu, hi, hZ, rfl, rfl, hzs⟩ := of_apB ht
  exact dx_lit (ps := []) (rs := []) ho hu hi hZ rfl h0 rfl (by omega) (by simp [Instr.fill]) (by simp) rfl (by unfold maxLen; omega) hw
theorem fill_one (s : Nat) (cells : Array Value) (hc : cells.size = s) (V : Value) (hV : V.cells.size = s) : Instr.fill (fun k => some (k * s, s)) cells [(0, V)] = some V.cells := by
  have key : ∀ (l : List (Value × Nat)) (cs : Array Value), l.foldl (fun cs (p : Value × Nat) => cs.setIfInBounds (0 * s + p.2) p.1) cs = l.foldl (fun cs (p : Value × Nat) => cs.setIfInBounds p.2 p.1) cs := by
    intro l; induction l with
    | nil => intro cs; rfl
    | cons x l ih => intro cs; simp only [List.foldl_cons, Nat.zero_mul, Nat.zero_add]
  have gen : ∀ (l : List Value) (k : Nat) (cs : Array Value), k + l.length = cs.size → ((l.zipIdx k).foldl (fun cs (p : Value × Nat) => cs.setIfInBounds p.2 p.1) cs).toList = cs.toList.take k ++ l := by
    intro l
    induction l with
    | nil => intro k cs h; simp only [List.length_nil, Nat.add_zero] at h; rw [List.take_of_length_le (by simp [h])]; simp
    | cons x l ih =>
      intro k cs h
      simp only [List.zipIdx_cons, List.foldl_cons]
      rw [ih (k + 1) _ (by simp at h ⊢; omega)]
      have hk : k < cs.toList.length := by simp at h ⊢; omega
      rw [Array.toList_setIfInBounds, List.take_succ_eq_append_getElem (by simpa using hk)]
      simp only [List.getElem_set_self, List.append_assoc, List.singleton_append, List.cons_append, List.nil_append]
      congr 1
      rw [List.take_set, List.set_eq_of_length_le (by rw [List.length_take]; omega)]
  unfold Instr.fill
  simp only [Nat.zero_mul, hV, hc, ne_eq, not_true_eq_false, Nat.zero_add, Nat.lt_irrefl, gt_iff_lt, or_self, if_false, Instr.fill, Bool.or_self, decide_false, decide_true]
  simp only [← Array.foldl_toList, Array.toList_zipIdx]
  have h2 := gen V.cells.toList 0 cells (by simp [hV, hc])
  have h3 : (List.foldl (fun cs (p : Value × Nat) => cs.setIfInBounds p.2 p.1) cells (V.cells.toList.zipIdx 0)) = V.cells := by
    apply Array.ext'
    rw [h2]; simp
  simpa using h3
theorem dx_lit1 {t s bytes : Nat} {x : Operand} {V : Value} {r : List Value} (ho : o.op = .buildSlice t 1 #[(0, x)]) (ht : apB P t s bytes = true) (h0 : 0 < s) (hs : s ≤ 16777216) (hx : ev f x = some V) (hV : V.cells.toList = r) (hl : r.length = s) (hw : wantF ops o f = some true := by rfl) : DR P ops o N f w (NewO s w [r]) := by
  obtain ⟨e, i, Z, hu, hi, hZ, rfl, rfl, hzs⟩ := of_apB ht
  have hVs : V.cells.size = i.size := by rw [← Array.length_toList, hV, hl]
  refine dx_lit (ps := [(0, V)]) (rs := [r]) ho hu hi hZ rfl h0 (by simp [evl, hx]) (by omega) ?_ (by simpa using hl) rfl (by unfold maxLen; omega) hw
  rw [if_neg (by omega), fill_one i.size _ (by simp) V hVs]
  simp [← hV]
theorem LL.grow {L : List Nat} {w w' : World} {B B' : Nat} (h : LL L w) (hg : GrowB B B' w w') (hB : B' < w'.heap.size) : LL (B' :: L) w' := fun x hx => by
  cases hx with
  | head => exact hB
  | tail _ hx => exact Nat.lt_of_lt_of_le (h x hx) hg.size
theorem RdF.grow' {s : Nat} {L : List Nat} {B B' : Nat} {w w' : World} {v : Value} {rs : List (List Value)} (h : RdF s L w v rs) (hg : GrowB B B' w w') (hB : B ∈ L) : RdF s (B' :: L) w' v rs := by
  have hh := h
  obtain ⟨h0, hr, a, cap, h1, h2, h3, h4, h5⟩ := h
  refine ⟨h0, hr, a, cap, h1, h2, h3, h4, fun hn => ?_⟩
  obtain ⟨X, o, e, hX, hc⟩ := h5 hn
  subst h1
  have hlt := rdf_lt hh e hn
  have hXB : X ≠ B := fun e => hX (e ▸ hB)
  refine ⟨X, o, e, ?_, fun j v hj => ?_⟩
  · simp only [List.mem_cons, not_or]
    refine ⟨?_, hX⟩
    cases hg.new with
    | inl e => rw [e]; exact hXB
    | inr e => omega
  · rw [← hc j v hj]
    exact World.cell?_of_block (hg.block X hlt hXB)
theorem OwS.len {s : Nat} {w : World} {v : Value} {rs : List (List Value)} {B : Nat} (h : OwS s w v rs B) : rs.length ≤ maxLen := by
  obtain ⟨h0, hr, cap, sp, rfl, h2, h3, h4, h5⟩ := h
  omega
theorem OwS.grow {s : Nat} {w w' : World} {v : Value} {rs : List (List Value)} {B C C' : Nat} (h : OwS s w v rs B) (hg : GrowB C C' w w') (hn : B ≠ C) : OwS s w' v rs B := by
  obtain ⟨h0, hr, cap, sp, h1, h2, h3, h4, h5⟩ := h
  exact ⟨h0, hr, cap, sp, h1, h2, h3, h4, h5.grow hg hn⟩
theorem OwS.grow_ne {s : Nat} {w w' : World} {v : Value} {rs : List (List Value)} {B C C' : Nat} (h : OwS s w v rs B) (hg : GrowB C C' w w') (hn : B ≠ C) : B ≠ C' := by
  obtain ⟨h0, hr, cap, sp, h1, h2, h3, h4, h5⟩ := h
  exact h5.grow_ne hg hn
/-- The beginning of an array, as a slice. -/
theorem dx_sliceA {t e : TypeId} {x y : Operand} {n B o0 : Nat} {h : Int} (k : Nat) (ho : o.op = .slice t x none (some y) none) (hu : P.underlying t = some (.array n e)) (hs : sizeB P e 1 = true) (hx : ev f x = some (.pointer (some ⟨B, o0, none⟩))) (hy : ev f y = some (.int .i64 h)) (hk : h = (k : Int)) (hh : k ≤ n) (h0 : 0 < n) (hw : wantF ops o f = some true := by rfl) : DV P ops o N f w (.slice (some ⟨B, o0, none⟩) k n) := fun a ha => by
  subst hk
  have hx := ha.ev hx
  have hy := ha.ev hy
  obtain ⟨i, hi, hsz⟩ := of_sizeB hs
  have hle : (k : Int) ≤ (n : Int) := by omega
  refine Does.pure (wantF_of ha hw) _ ?_ ⟨rfl, rfl⟩
  unfold execOp
  simp only [ho, Option.map_none, Option.map_some, hx, hy, Instr.sliceAt, Sem.run_bind, run_underlying hu, Result.andThen_ok, Instr.sureAddr, Instr.sliceBounds, Instr.sliceBound, asIntOf, Sem.run_pure, sizeOf, typeInfo, run_program, hi]
  simp [hle, addr_at]
theorem dx_sliceAA {t e : TypeId} {x : Operand} {n B o0 : Nat} (ho : o.op = .slice t x none none none) (hu : P.underlying t = some (.array n e)) (hs : sizeB P e 1 = true) (hx : ev f x = some (.pointer (some ⟨B, o0, none⟩))) (h0 : 0 < n) (hw : wantF ops o f = some true := by rfl) : DV P ops o N f w (.slice (some ⟨B, o0, none⟩) n n) := fun a ha => by
  have hx := ha.ev hx
  obtain ⟨i, hi, hsz⟩ := of_sizeB hs
  refine Does.pure (wantF_of ha hw) _ ?_ ⟨rfl, rfl⟩
  unfold execOp
  simp only [ho, Option.map_none, hx, Instr.sliceAt, Sem.run_bind, run_underlying hu, Result.andThen_ok, Instr.sureAddr, Instr.sliceBounds, Sem.run_pure, sizeOf, typeInfo, run_program, hi]
  simp [addr_at]
/-- A copy to the beginning of a block of the call's own. -/
theorem dx_copy {x y : Operand} {t t' : TypeId} {B X o2 n c m c' : Nat} {cs ys : List Value} (ho : o.op = .call { callee := .builtin .copy, args := #[x, y], argTypes := #[t, t'] }) (ht : sliceB P t 1 = true) (hx : ev f x = some (.slice (some ⟨B, 0, none⟩) n c)) (hy : ev f y = some (.slice (some ⟨X, o2, none⟩) m c')) (hb : Blk w B cs) (hr : w.rangeAt X o2 ys) (hm : ys.length = m) (hn : n ≤ cs.length) (hnm : n ≤ m) (h1 : ∀ v ∈ ys, v.oneCell' = true) (hw : wantF ops o f = some true := by rfl) :
    DR P ops o N f w fun v W => v = .int .i64 (n : Int) ∧ Blk W B (ys.take n ++ cs.drop n) ∧ Only B w W := fun a ha => by
  have hx := ha.ev hx
  have hy := ha.ev hy
  obtain ⟨e, hu, hs⟩ := of_sliceB ht
  obtain ⟨tt, hb'⟩ := hb
  have hmin : Nat.min m n = n := Nat.min_eq_right hnm
  cases hi : P.info? e with
  | none => rw [hi] at hs; cases hs
  | some q =>
    have hq : q.size = 1 := by simpa [hi] using hs
    have hf := run_firstCells_some (P := P) w q.size n ⟨X, o2, none⟩ m c' (ys.take n) (by rw [hq, List.length_take]; omega) (fun j u hj => by
      rw [List.getElem?_take] at hj
      split at hj
      · rw [addr_at]; exact hr j u hj
      · cases hj)
    have hst := run_storeCells_at P B 0 tt (ys.take n) 0 _ w hb' (by simp; omega) (fun v hv => h1 v (List.mem_of_mem_take hv))
    simp only [Nat.add_zero, List.take_zero, List.nil_append, Nat.zero_add] at hst
    have hlen : (ys.take n).length = n := by rw [List.length_take]; omega
    rw [hlen] at hst
    exact Does.of_wp (wantF_of ha hw) fun K hK => by
      unfold Oper.wp execOp
      simp only [ho, resolve, invoke, builtin, Sem.run_bind, Sem.run_pure, Result.andThen_ok, List.map_toArray, List.map_cons, List.map_nil, hx, hy, Builtin.copy_, run_underlying hu, List.getElem?_toArray, List.getElem?_cons_zero, List.getElem?_cons_succ, Builtin.lenOf, hmin, sizeOf, typeInfo, run_program, hi, hf, hst]
      have hfin : Blk (w.setRow B (ys.take n ++ cs.toArray.toList.drop n).toArray) B (ys.take n ++ cs.drop n) := ⟨tt, by rw [setRow_heap w B _ _ tt (0, 0) hb']⟩
      exact hK _ _ ⟨rfl, hfin, only_setRow w B _⟩
/-- A struct of parts of one cell each. -/
def builtO (P : Program) (t : TypeId) (ps : List (Nat × Value)) : Option (List Value) := match P.info? t, P.underlying t with
  | some it, some (.struct fs) => match it.zero, fs.toList.mapM (fun f => (P.info? f.type).map fun i => (f.offset, i.size)) with
    | some z, some places => ps.foldl (fun (acc : Option (List Value)) (p : Nat × Value) => acc.bind fun cs => match places[p.1]? with
        | some (off, 1) => if off < cs.length then some (cs.set off p.2) else none
        | _ => none) (some z.cells.toList)
    | _, _ => none
  | _, _ => none
theorem built_of_O {t : TypeId} {ps : List (Nat × Value)} {cs : List Value} (h : builtO P t ps = some cs) (h1 : ∀ v ∈ ps.map (·.2), v.oneCell' = true) : P.built t ps = some cs.toArray := by
  unfold builtO at h
  unfold Program.built
  cases hi : P.info? t with
  | none => rw [hi] at h; cases h
  | some it =>
    cases hu : P.underlying t with
    | none => rw [hi, hu] at h; cases h
    | some d =>
      rw [hi, hu] at h
      cases d <;> simp only [reduceCtorEq] at h
      rename_i fs
      simp only
      cases hz : it.zero with
      | none => rw [hz] at h; cases h
      | some z =>
        rw [hz] at h
        cases hp : fs.toList.mapM (fun f => (P.info? f.type).map fun i => (f.offset, i.size)) with
        | none => rw [hp] at h; cases h
        | some places =>
          rw [hp] at h
          simp only at h ⊢
          have key : ∀ (ps : List (Nat × Value)) (acc cs : List Value), (∀ v ∈ ps.map (·.2), v.oneCell' = true) → ps.foldl (fun (acc : Option (List Value)) (p : Nat × Value) => acc.bind fun cs => match places[p.1]? with
              | some (off, 1) => if off < cs.length then some (cs.set off p.2) else none
              | _ => none) (some acc) = some cs → Instr.fill (places.toArray[·]?) acc.toArray ps = some cs.toArray := by
            have none_ : ∀ (ps : List (Nat × Value)), ps.foldl (fun (acc : Option (List Value)) (p : Nat × Value) => acc.bind fun cs => match places[p.1]? with
              | some (off, 1) => if off < cs.length then some (cs.set off p.2) else none
              | _ => none) none = none := by
              intro ps; induction ps with
              | nil => rfl
              | cons p ps ih => simpa using ih
            intro ps
            induction ps with
            | nil => intro acc cs _ h; simp at h; simp [Instr.fill, h]
            | cons p ps ih =>
              intro acc cs h1 h
              obtain ⟨i, v⟩ := p
              simp only [List.foldl_cons, Option.bind_some] at h
              have hv : v.oneCell' = true := h1 v (by simp)
              have hcs : v.cells = #[v] := by cases v <;> simp_all [Value.cells, Value.oneCell']
              unfold Instr.fill
              simp only [List.getElem?_toArray]
              cases hpl : places[i]? with
              | none => rw [hpl] at h; simp only [none_] at h; cases h
              | some q =>
                obtain ⟨off, sz⟩ := q
                rw [hpl] at h
                by_cases hsz : sz = 1
                · subst hsz
                  simp only at h
                  by_cases hlt : off < acc.length
                  · rw [if_pos hlt] at h
                    have := ih (acc.set off v) cs (fun u hu => h1 u (by simp at hu ⊢; exact .inr hu)) h
                    simp only [hcs]
                    simp
                    exact ⟨by omega, by simpa using this⟩
                  · rw [if_neg hlt, none_] at h; cases h
                · exfalso
                  split at h
                  · rename_i heq; simp at heq; exact hsz heq.2
                  · rw [none_] at h; cases h
          exact key ps _ _ h1 h
end
/-- A slice with no room behind it. -/
def FulF (s : Nat) (L : List Nat) (w : World) (u : Value) (rs : List (List Value)) : Prop := ∃ a, u = .slice a rs.length rs.length ∧ RdF s L w u rs
theorem FulF.below {s : Nat} {L : List Nat} {w w' : World} {v : Value} {rs : List (List Value)} (h : FulF s L w v rs) (hb : Below w.heap.size w w') : FulF s L w' v rs := by
  obtain ⟨a, h1, h2⟩ := h
  exact ⟨a, h1, h2.below hb⟩
end Go.Proofs.YthefddclefimoaaDoor
