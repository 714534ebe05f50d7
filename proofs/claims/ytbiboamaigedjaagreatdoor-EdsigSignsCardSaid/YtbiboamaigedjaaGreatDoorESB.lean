/- Slices of the call's own: rows that may be written, and appended to. No program stands here. Arrays and structs: whether two are the same. No program  -/
import Derived.Laws.AppendOwnNone
import Derived.ChangeKeysEq
import Derived.Laws.StructEq
import Derived.ChangeSlices
import Derived.ChangeSame
import Derived.Deep.Strs
import Derived.Lib.SmallJoins
import Derived.Lib.Overlaps
import Derived.Sort.OwnSorted
import Derived.Lib.SlicesCompact
import Derived.Lib.RowBridge
import Derived.Lib.AppendZeros
import Derived.Deep.LoopGhost
import Derived.Test.YtbiboamaigedjaaGreatDoorESA
namespace Go.Proofs.YtbiboamaigedjaaGreatDoor
open Go.RowKit
set_option linter.unusedVariables false
set_option linter.unusedSimpArgs false
set_option maxRecDepth 8000
set_option maxHeartbeats 2000000

/-- A block is written to, or another one comes in its place. -/
structure YB (B B' : Nat) (w w' : World) : Prop where
  os : w'.os = w.os
  tape : w'.tape = w.tape
  output : w'.output = w.output
  size : w.heap.size <= w'.heap.size
  block : ∀ k, k < w.heap.size -> k ≠ B -> w'.heap[k]? = w.heap[k]?
  new : B' = B \/ w.heap.size <= B'
theorem YB.of_only {B : Nat} {w w' : World} (h : U4 B w w') : YB B B w w' := ⟨h.os, h.tape, h.output, by rw [h.size]; exact Nat.le_refl _, fun k _ hk => h.block k hk, .inl rfl⟩
theorem YB.of_below {B : Nat} {w w' : World} (h : Below w.heap.size w w') : YB B w.heap.size w w' := ⟨h.os, h.tape, h.output, h.size, fun k hk _ => h.block k hk, .inr (Nat.le_refl _)⟩
theorem YB.below {n0 B B' : Nat} {w0 w w' : World} (h : YB B B' w w') (hb : Below n0 w0 w) (hB : n0 <= B) (hn : n0 <= w.heap.size) : Below n0 w0 w' :=
  ⟨by rw [h.os]; exact hb.os, by rw [h.tape]; exact hb.tape, by rw [h.output]; exact hb.output, Nat.le_trans hb.size h.size, fun k hk => by rw [h.block k (by omega) (by omega)]; exact hb.block k hk⟩
theorem YB.le {n0 B B' : Nat} {w w' : World} (h : YB B B' w w') (hB : n0 <= B) (hn : n0 <= w.heap.size) : n0 <= B' := by
  cases h.new with
  | inl e => omega
  | inr e => omega
/-- A slice of the call's own: its rows lie at the beginning of its block. -/
def OwS (s : Nat) (w : World) (v : Value) (rs : List (List Value)) (B : Nat) : Prop :=
  0 < s /\ (∀ r ∈ rs, r.length = s) /\ ∃ cap sp, v = .slice (some ⟨B, 0, none⟩) rs.length cap /\ rs.length <= cap /\ cap <= maxLen /\ sp.length = (cap - rs.length) * s /\ Q8 w B (rs.flatten ++ sp)
theorem OwS.rd {s : Nat} {w : World} {v : Value} {rs : List (List Value)} {B : Nat} {L : List Nat} (h : OwS s w v rs B) (hB : B ∉ L) : Zh s L w v rs := by
  obtain ⟨h0, hr, cap, sp, rfl, h2, h3, h4, h5⟩ := h
  refine ⟨h0, hr, _, cap, rfl, h2, h3, by simp, fun _ => ⟨B, 0, rfl, hB, fun j v hj => h5.range j v ?_⟩⟩
  rw [List.getElem?_append_left (List.getElem?_eq_some_iff.1 hj).1]
  exact hj
theorem OwS.below {s : Nat} {w w' : World} {v : Value} {rs : List (List Value)} {B : Nat} (h : OwS s w v rs B) (hb : Below w.heap.size w w') : OwS s w' v rs B := by
  obtain ⟨h0, hr, cap, sp, h1, h2, h3, h4, h5⟩ := h
  exact ⟨h0, hr, cap, sp, h1, h2, h3, h4, h5.below hb⟩
section
variable {P : Program} {ops : Array Oper} {o : Oper} {N : Nat} {f : Fl} {w : World}
/-- A slice that is written out. -/
theorem Vt {t e : TypeId} (hu : P.underlying t = some (.slice e)) {i : TypeInfo} (hi : P.info? e = some i) {Z : Value} (hz : i.zero = some Z) (len : Nat) (parts : Array (Nat × Value)) (hlen : len * i.size <= 16777216) {cs : Array Value}
    (hf : Instr.fill (fun k => some (k * i.size, i.size)) (if len * i.size = 0 then #[] else (Array.range (len * i.size)).map (Z.cells[· % Z.cells.size]!)) parts.toList = some cs) :
    (Instr.buildSlice t len parts).run P w = .ok (.slice (some ⟨w.heap.size, 0, none⟩) len len) (w.alloc (.cells cs e)) := by
  have hn : ¬ len * i.size > 2 ^ 24 := by omega
  unfold Instr.buildSlice
  simp only [Sem.run_bind, run_underlying hu, Result.andThen_ok, sizeOf, typeInfo, run_program, hi, Sem.run_pure, if_neg hn]
  by_cases h0 : len * i.size = 0
  . rw [if_pos h0] at hf
    have e0 : Array.map (fun x => (#[] : Array Value)[x % (#[] : Array Value).size]!) (Array.range (len * i.size)) = #[] := by rw [h0]; simp
    simp only [if_pos h0, Sem.run_pure, Result.andThen_ok, e0, hf, newRow, Sem.run_bind, run_newObj_alloc]
  . rw [if_neg h0] at hf
    simp only [if_neg h0, zeroValue, typeInfo, Sem.run_bind, run_program, hi, hz, Sem.run_pure, Result.andThen_ok, hf, newRow, run_newObj_alloc]
theorem KY (w : World) (t : TypeId) (cs : List Value) : Q8 (w.alloc (.cells cs.toArray t)) w.heap.size cs /\ Below w.heap.size w (w.alloc (.cells cs.toArray t)) /\ w.heap.size < (w.alloc (.cells cs.toArray t)).heap.size :=
  ⟨⟨t, by rw [heap_alloc_new]⟩, (Below.refl _ _).alloc (Nat.le_refl _) _, (Array.getElem?_eq_some_iff.1 (heap_alloc_new w _)).1⟩
/-- What a slice is that is newly made. -/
def Qkb (s : Nat) (w : World) (rs : List (List Value)) (u : Value) (W : World) : Prop := OwS s W u rs w.heap.size /\ Below w.heap.size w W /\ w.heap.size < W.heap.size
theorem QlG {t len s : Nat} {parts : Array (Nat × Operand)} {e : TypeId} {i : TypeInfo} {Z : Value} {ps : List (Nat × Value)} {rs : List (List Value)} (ho : o.op = .buildSlice t len parts) (hu : P.underlying t = some (.slice e)) (hi : P.info? e = some i) (hz : i.zero = some Z) (hs : i.size = s) (h0 : 0 < s)
    (hp : (evl f (parts.toList.map (·.2))).map (fun vs => (parts.toList.map (·.1)).zip vs) = some ps) (hlen : len * s <= 16777216)
    (hf : Instr.fill (fun k => some (k * s, s)) (if len * s = 0 then #[] else (Array.range (len * s)).map (Z.cells[· % Z.cells.size]!)) ps = some rs.flatten.toArray) (hrs : ∀ r ∈ rs, r.length = s) (hl : rs.length = len) (hm : len <= maxLen) (hw : Qu ops o f = some true := by rfl) : DR P ops o N f w (Qkb s w rs) := fun a ha => by
  have key : (parts.map fun (i, x) => (i, a.eval x)).toList = ps := by
    cases hq : evl f (parts.toList.map (·.2)) with
    | none => rw [hq] at hp; cases hp
    | some vs =>
      rw [hq] at hp
      have h1 := ha.evl hq
      simp only [Option.map_some, Option.some.injEq] at hp
      rw [<- hp, <- h1, Array.toList_map]
      clear hp h1 hq ho
      induction parts.toList with
      | nil => rfl
      | cons p l ih => simp only [List.map_cons, List.zip_cons_cons, List.cons.injEq, true_and]; exact ih
  subst hs
  have hrun := Vt (w := w) hu hi hz len (parts.map fun (i, x) => (i, a.eval x)) hlen (cs := rs.flatten.toArray) (by rw [key]; exact hf)
  exact Qt.of_wp (Qj ha hw) fun K hK => by
    unfold Oper.wp execOp
    simp only [ho, Sem.run_bind, hrun, Sem.run_pure, Result.andThen_ok]
    obtain ⟨n1, n2, n3⟩ := KY w e rs.flatten
    exact hK _ _ ⟨⟨h0, hrs, len, [], by rw [hl], by omega, hm, by simp [hl], by simpa using n1⟩, n2, n3⟩
theorem G8 {t ty e t' : TypeId} {i : TypeInfo} (ht : P.underlying t = some (.slice e)) (hi : P.info? e = some i)
    (g sLen sCap : Nat) (cur : Array Value) (hg : w.heap[g]? = some (.cells cur t' (0, 0)))
    (a : Addr) (m c : Nat) (news : List Value) (hl : news.length = m * i.size) (hnews : ∀ j u, news[j]? = some u -> w.cell? (a.add j) = some u) (h1 : ∀ u ∈ news, u.oneCell' = true)
    (hroom : sLen + m <= sCap) (hfit : sLen * i.size + news.length <= cur.size) :
    (Builtin.append_ #[t, t] ty #[.slice (some ⟨g, 0, none⟩) sLen sCap, .slice (some a) m c]).run P w =
      .ok (.slice (some ⟨g, 0, none⟩) (sLen + m) sCap) (w.setRow g (cur.toList.take (sLen * i.size) ++ news ++ cur.toList.drop (sLen * i.size + news.length)).toArray) := by
  have hf := run_firstCells_some (P := P) w i.size m a m c news hl hnews
  have hst := run_storeCells_at P g (sLen * i.size) t' news 0 cur w hg (by simpa using hfit) h1
  simp only [Nat.add_zero] at hst
  simp [Builtin.append_, run_underlying ht, sizeOf, typeInfo, hi, Builtin.lenOf, hroom, hf, ZS, hst]
/-- An append to a slice of the call's own. -/
theorem QiT {t ty e : TypeId} (hu : P.underlying t = some (.slice e)) {i : TypeInfo} (hi : P.info? e = some i) {Z : Value} (hz : i.zero = some Z) (hzs : Z.cells.size = i.size) {B : Nat} {v v2 : Value} {rs news : List (List Value)} {L : List Nat}
    (h : OwS i.size w v rs B) (h2 : Zh i.size L w v2 news) (h1 : ∀ r ∈ news, ∀ u ∈ r, u.oneCell' = true) (hm : rs.length + news.length <= maxLen) (hby : (rs.length + news.length) * i.bytes <= 140737488355328) :
    ∃ v' w' B', (Builtin.append_ #[t, t] ty #[v, v2]).run P w = .ok v' w' /\ OwS i.size w' v' (rs ++ news) B' /\ YB B B' w w' := by
  obtain ⟨h0, hl, cap, sp, rfl, hc1, hc2, hc3, hb⟩ := h
  obtain ⟨_, hl2, a2, cap2, rfl, hd1, hd2, hd3, hd4⟩ := h2
  have hlr : ∀ r ∈ rs ++ news, r.length = i.size := fun r hr => by
    rcases List.mem_append.1 hr with h | h
    . exact hl r h
    . exact hl2 r h
  by_cases hn : news = []
  . subst hn
    refine ⟨.slice (some ⟨B, 0, none⟩) rs.length cap, w, B, ?_, ⟨h0, hlr, cap, sp, by simp, by simpa using hc1, hc2, by simpa using hc3, by simpa using hb⟩, ⟨rfl, rfl, rfl, Nat.le_refl _, fun _ _ _ => rfl, .inl rfl⟩⟩
    obtain ⟨tt, hb'⟩ := hb
    cases a2 with
    | none =>
      obtain rfl := hd3 rfl
      simp [Builtin.append_, run_underlying hu, sizeOf, typeInfo, hi, Builtin.lenOf, hc1, Builtin.firstCells, storeCells]
    | some a2 =>
      simp [Builtin.append_, run_underlying hu, sizeOf, typeInfo, hi, Builtin.lenOf, hc1, Builtin.firstCells, loadCells, loadCellsFrom, storeCells]
  . obtain ⟨X, o0, rfl, hX, hc⟩ := hd4 hn
    obtain ⟨tt, hb'⟩ := hb
    have hnews : ∀ j u, news.flatten[j]? = some u -> w.cell? ((⟨X, o0, none⟩ : Addr).add j) = some u := fun j u hj => by rw [ZS]; exact hc j u hj
    have hflat : news.flatten.length = news.length * i.size := Yx hl2
    have h1' : ∀ u ∈ news.flatten, u.oneCell' = true := fun u hu => by
      obtain ⟨r, hr, hur⟩ := List.mem_flatten.1 hu
      exact h1 r hr u hur
    have hfl : rs.flatten.length = rs.length * i.size := Yx hl
    by_cases hroom : rs.length + news.length <= cap
    . have hle : news.length * i.size <= sp.length := by
        rw [hc3]
        exact Nat.mul_le_mul_right _ (by omega)
      have hr := G8 (P := P) (w := w) (t := t) (ty := ty) hu hi B rs.length cap _ hb' ⟨X, o0, none⟩ news.length cap2 news.flatten hflat hnews h1' hroom (by rw [List.size_toArray, List.length_append, hflat, hfl]; omega)
      refine ⟨_, _, B, hr, ⟨h0, hlr, cap, sp.drop news.flatten.length, by rw [List.length_append], by rw [List.length_append]; exact hroom, hc2, ?_, ⟨tt, ?_⟩⟩, YB.of_only (VZ w B _)⟩
      . rw [List.length_drop, List.length_append, hc3, hflat, <- Nat.sub_mul]
        congr 1
        omega
      . rw [setRow_heap w B _ _ tt _ hb']
        congr 3
        simp only [List.flatten_append, List.append_assoc]
        rw [<- hfl, List.take_left, List.drop_append, List.drop_eq_nil_of_le (by omega), List.nil_append, Nat.add_sub_cancel_left]
    . have holds : ∀ j u, rs.flatten[j]? = some u -> w.cell? ((⟨B, 0, none⟩ : Addr).add j) = some u := fun j u hj => by
        have := (Q8.range ⟨tt, hb'⟩) j u (by rw [List.getElem?_append_left (List.getElem?_eq_some_iff.1 hj).1]; exact hj)
        rw [ZS]; exact this
      have hsmall : rs.length + news.length <= 9223372036854775807 := by unfold maxLen at hm; omega
      have hr := run_append_grow (P := P) w t ty e i Z hu hi hz ⟨B, 0, none⟩ rs.length cap rs.flatten hfl holds ⟨X, o0, none⟩ news.length cap2 news.flatten hflat hnews (by omega) (by omega) (growslice_fits (by omega) hby)
      refine ⟨_, _, w.heap.size, hr, ⟨h0, hlr, grownCap w (rs.length + news.length) cap e, (Builtin.zeroCells Z.cells (grownCap w (rs.length + news.length) cap e - (rs.length + news.length))).toList, by rw [List.length_append], by rw [List.length_append]; exact grownCap_ge _ _ _ _, grownCap_le_maxLen _ _ _ _ hm, ?_, ⟨e, ?_⟩⟩, ?_⟩
      . rw [Array.length_toList, size_zeroCells, hzs, List.length_append]
      . rw [show w.heap.size = w.drew.heap.size from (World.size_drew w).symm, heap_alloc_new]
        congr 2
        apply Array.ext'
        simp
      . exact YB.of_below (JF (Yo (Below.refl _ _) 1) _)
/-- What is asked of an element's type ahead of an append. -/
def apB (P : Program) (t s bytes : Nat) : Bool := match P.underlying t with
  | some (.slice e) => match P.info? e with
    | some i => i.size == s && i.bytes == bytes && (match i.zero with | some z => z.cells.size == s | none => false)
    | none => false
  | _ => false
theorem UT {t s bytes : Nat} (h : apB P t s bytes = true) : ∃ e i Z, P.underlying t = some (.slice e) /\ P.info? e = some i /\ i.zero = some Z /\ i.size = s /\ i.bytes = bytes /\ Z.cells.size = i.size := by
  unfold apB at h
  split at h
  . rename_i e hu
    split at h
    . rename_i i hi
      simp only [Bool.and_eq_true, beq_iff_eq] at h
      obtain ⟨⟨h1, h2⟩, h3⟩ := h
      split at h3
      . rename_i z hz
        exact ⟨e, i, z, hu, hi, hz, h1, h2, by rw [h1]; simpa using h3⟩
      . cases h3
    . cases h
  . cases h
/-- What an append leaves. -/
def GrO (s B : Nat) (w : World) (rs : List (List Value)) (u : Value) (W : World) : Prop := ∃ B', OwS s W u rs B' /\ YB B B' w W
/-- An append of something to a slice that is full: what comes is new. -/
theorem QhX {t s bytes : Nat} {x y : Operand} {v2 : Value} {a1 : Option Addr} {rs news : List (List Value)} {L : List Nat} (ho : o.op = .call { callee := .builtin .append, args := #[x, y], argTypes := #[t, t] }) (ht : apB P t s bytes = true) (hx : ev f x = some (.slice a1 rs.length rs.length)) (hy : ev f y = some v2)
    (h : Zh s L w (.slice a1 rs.length rs.length) rs) (h2 : Zh s L w v2 news) (hn : news ≠ []) (hm : rs.length + news.length <= maxLen) (hby : (rs.length + news.length) * bytes <= 140737488355328) (hw : Qu ops o f = some true := by rfl) : DR P ops o N f w (Qkb s w (rs ++ news)) := fun a ha => by
  obtain ⟨e, i, Z, hu, hi, hz, rfl, rfl, hzs⟩ := UT ht
  have hx := ha.ev hx
  have hy := ha.ev hy
  obtain ⟨h0, hl, ad, cap, he, hc1, hc2, hc3, hc4⟩ := h
  obtain ⟨_, hl2, a2, cap2, rfl, hd1, hd2, hd3, hd4⟩ := h2
  simp only [Value.slice.injEq, true_and] at he
  obtain ⟨rfl, rfl⟩ := he
  have hlr : ∀ r ∈ rs ++ news, r.length = i.size := fun r hr => by
    rcases List.mem_append.1 hr with h | h
    . exact hl r h
    . exact hl2 r h
  obtain ⟨X, o0, rfl, hX, hc⟩ := hd4 hn
  have hpos : 0 < news.length := List.length_pos_iff.2 hn
  have hnews : ∀ j u, news.flatten[j]? = some u -> w.cell? ((⟨X, o0, none⟩ : Addr).add j) = some u := fun j u hj => by rw [ZS]; exact hc j u hj
  have hflat : news.flatten.length = news.length * i.size := Yx hl2
  have hfl : rs.flatten.length = rs.length * i.size := Yx hl
  have hsmall : rs.length + news.length <= 9223372036854775807 := by unfold maxLen at hm; omega
  have fin : ∀ cap', rs.length + news.length <= cap' -> cap' <= maxLen -> Qkb i.size w (rs ++ news) (.slice (some ⟨w.heap.size, 0, none⟩) (rs.length + news.length) cap') (w.drew.alloc (.cells ((rs ++ news).flatten ++ (Builtin.zeroCells Z.cells (cap' - (rs.length + news.length))).toList).toArray e)) := fun cap' hcap1 hcap2 => by
    refine ⟨⟨h0, hlr, cap', (Builtin.zeroCells Z.cells (cap' - (rs.length + news.length))).toList, by rw [List.length_append], by rw [List.length_append]; exact hcap1, hcap2, ?_, ⟨e, ?_⟩⟩, JF (Yo (Below.refl _ _) 1) _, ?_⟩
    . rw [Array.length_toList, size_zeroCells, hzs, List.length_append]
    . rw [show w.heap.size = w.drew.heap.size from (World.size_drew w).symm, heap_alloc_new]
    . rw [show w.heap.size = w.drew.heap.size from (World.size_drew w).symm]; exact (Array.getElem?_eq_some_iff.1 (heap_alloc_new _ _)).1
  refine Qt.of_wp (Qj ha hw) fun K hK => ?_
  have main : ∃ cap', rs.length + news.length <= cap' /\ cap' <= maxLen /\ (Builtin.append_ #[t, t] o.type #[.slice a1 rs.length rs.length, .slice (some ⟨X, o0, none⟩) news.length cap2]).run P w = .ok (.slice (some ⟨w.heap.size, 0, none⟩) (rs.length + news.length) cap') (w.drew.alloc (.cells ((rs ++ news).flatten ++ (Builtin.zeroCells Z.cells (cap' - (rs.length + news.length))).toList).toArray e)) := by
    cases a1 with
    | none =>
      have hz0 := hc3 rfl
      have hrs : rs = [] := List.length_eq_zero_iff.1 hz0
      subst hrs
      have hr := run_append_nil (P := P) w t o.type e i Z hu hi hz ⟨X, o0, none⟩ news.length cap2 news.flatten hflat hnews hpos (by omega) (by simp only [List.length_nil, Nat.zero_add] at hby; omega)
      refine ⟨grownCap w news.length 0 e, by simpa using grownCap_ge _ _ _ _, grownCap_le_maxLen _ _ _ _ (by simpa using hm), ?_⟩
      simp only [List.length_nil, Nat.zero_add]
      rw [hr]
      congr 3
      congr 1
      apply Array.ext'
      simp
    | some b =>
      have holds : ∀ j u, rs.flatten[j]? = some u -> w.cell? (b.add j) = some u := fun j u hj => by
        have hne : rs ≠ [] := by intro e; subst e; simp at hj
        obtain ⟨X', o', e, _, hc'⟩ := hc4 hne
        cases e
        rw [ZS]; exact hc' j u hj
      have hr := run_append_grow (P := P) w t o.type e i Z hu hi hz b rs.length rs.length rs.flatten hfl holds ⟨X, o0, none⟩ news.length cap2 news.flatten hflat hnews (by omega) (by omega) (growslice_fits (by omega) hby)
      refine ⟨grownCap w (rs.length + news.length) rs.length e, grownCap_ge _ _ _ _, grownCap_le_maxLen _ _ _ _ hm, ?_⟩
      rw [hr]
      congr 3
      apply Array.ext'
      simp
  obtain ⟨cap', k1, k2, k3⟩ := main
  unfold Oper.wp execOp
  simp only [ho, resolve, invoke, builtin, Sem.run_bind, Sem.run_pure, Result.andThen_ok, List.map_toArray, List.map_cons, List.map_nil, hx, hy, k3]
  exact hK _ _ (fin cap' k1 k2)
/-- A slice of noughts. -/
theorem EM {Z : Value} {r : List Value} {s : Nat} (hr : Z.cells.toList = r) (hzs : Z.cells.size = s) (hs : 0 < s) (n : Nat) : madeCells Z.cells (n * s) = (List.replicate n r).flatten.toArray := by
  have hrl : r.length = s := by rw [<- hr, Array.length_toList, hzs]
  apply Array.ext
  . rw [size_madeCells, List.size_toArray, Yx (s := s) (fun r' hr' => by rw [(List.mem_replicate.1 hr').2]; exact hrl), List.length_replicate]
  . intro j h1 h2
    rw [size_madeCells] at h1
    have hjs : j % s < s := Nat.mod_lt _ hs
    have hjd : j / s < n := (Nat.div_lt_iff_lt_mul hs).2 h1
    have hrow := QbC (rs := List.replicate n r) (s := s) (i := j / s) (r := r) (fun r' hr' => by rw [(List.mem_replicate.1 hr').2]; exact hrl) (by rw [List.getElem?_replicate, if_pos hjd])
    have hg : (List.replicate n r).flatten[j]? = r[j % s]? := by
      conv => rhs; rw [<- hrow]
      rw [List.getElem?_take, if_pos hjs, List.getElem?_drop]
      congr 1
      have := Nat.div_add_mod j s
      rw [Nat.mul_comm] at this
      exact this.symm
    have hzj : j % Z.cells.size < Z.cells.size := by rw [hzs]; exact hjs
    simp only [madeCells, Array.getElem_map, Array.getElem_range]
    rw [getElem!_pos Z.cells _ hzj]
    have h3 : (List.replicate n r).flatten.toArray[j]? = some ((List.replicate n r).flatten.toArray[j]) := Array.getElem?_eq_getElem h2
    have h4 : r[j % s]? = some (Z.cells[j % Z.cells.size]) := by
      have h5 : r[j % s]? = Z.cells.toList[j % s]? := by rw [hr]
      rw [h5, Array.getElem?_toList, <- Array.getElem?_eq_getElem hzj, hzs]
    rw [List.getElem?_toArray, hg, h4] at h3
    exact Option.some.inj h3
theorem QhQ {t s bytes : Nat} {x y : Operand} {K : IntKind} {n : Int} {r : List Value} (ho : o.op = .makeSlice t x y) (ht : apB P t s bytes = true) (hz : ∀ e, P.underlying t = some (.slice e) -> (P.info? e).bind (fun i => i.zero.map (·.cells.toList)) = some r) (hx : ev f x = some (.int K n)) (hy : ev f y = some (.int K n)) (h0 : 0 <= n) (hs : 0 < s) (hb : bytes * n <= 140737488355328) (hm : n <= maxLen) (hw : Qu ops o f = some true := by rfl) :
    DR P ops o N f w (fun u W => u = .slice (some ⟨w.heap.size, 0, none⟩) n.toNat n.toNat /\ (∀ r' ∈ List.replicate n.toNat r, r'.length = s) /\ Q8 W w.heap.size (List.replicate n.toNat r).flatten /\ Below w.heap.size w W /\ w.heap.size < W.heap.size) := fun a ha => by
  obtain ⟨e, i, Z, hu, hi, hZ, rfl, rfl, hzs⟩ := UT ht
  have hx := ha.ev hx
  have hy := ha.ev hy
  have hr := hz e hu
  rw [hi] at hr
  simp only [Option.bind_some, hZ, Option.map_some, Option.some.injEq] at hr
  have hrun := run_make (P := P) w t e i Z hu hi hZ K K n n h0 (Int.le_refl _) (by omega) (by unfold maxLen at hm; omega)
  have hrl : r.length = i.size := by rw [<- hr, Array.length_toList, hzs]
  have hcs : madeCells Z.cells (n.toNat * i.size) = (List.replicate n.toNat r).flatten.toArray := EM hr hzs hs _
  exact Qt.of_wp (Qj ha hw) fun KK hK => by
    unfold Oper.wp execOp
    simp only [ho, hx, hy, Sem.run_bind, hrun, Sem.run_pure, Result.andThen_ok]
    rw [hcs]
    obtain ⟨n1, n2, n3⟩ := KY w e (List.replicate n.toNat r).flatten
    exact hK _ _ ⟨rfl, (fun r' hr' => by rw [(List.mem_replicate.1 hr').2]; exact hrl), n1, n2, n3⟩
end

theorem LL.notin {L : List Nat} {w : World} (h : LL L w) {B : Nat} (hB : w.heap.size <= B) : B ∉ L := fun hx => by have := h B hx; omega
section
variable {P : Program} {ops : Array Oper} {o : Oper} {N : Nat} {f : Fl} {w : World}
theorem QlF {x y : Operand} {ts : Array TypeId} {K : IntKind} {m n : Int} (ho : o.op = .call { callee := .builtin .max, args := #[x, y], argTypes := ts }) (hx : ev f x = some (.int K m)) (hy : ev f y = some (.int K n)) (hw : Qu ops o f = some true := by rfl) : DV P ops o N f w (.int K (if m < n then n else m)) := fun a ha => by
  have hx := ha.ev hx
  have hy := ha.ev hy
  refine Qt.pure (Qj ha hw) _ ?_ ⟨rfl, rfl⟩
  unfold execOp
  simp only [ho, resolve, invoke, builtin, Sem.run_bind, Sem.run_pure, Result.andThen_ok, List.map_toArray, List.map_cons, List.map_nil, hx, hy, Builtin.max_, List.foldlM_cons, List.foldlM_nil, Builtin.max2]
theorem QlE {x y : Operand} {ts : Array TypeId} {K : IntKind} {m n : Int} (ho : o.op = .call { callee := .builtin .min, args := #[x, y], argTypes := ts }) (hx : ev f x = some (.int K m)) (hy : ev f y = some (.int K n)) (hw : Qu ops o f = some true := by rfl) : DV P ops o N f w (.int K (if n < m then n else m)) := fun a ha => by
  have hx := ha.ev hx
  have hy := ha.ev hy
  refine Qt.pure (Qj ha hw) _ ?_ ⟨rfl, rfl⟩
  unfold execOp
  simp only [ho, resolve, invoke, builtin, Sem.run_bind, Sem.run_pure, Result.andThen_ok, List.map_toArray, List.map_cons, List.map_nil, hx, hy, Builtin.min_, List.foldlM_cons, List.foldlM_nil, Builtin.min2]
theorem QhH (s : Nat) (cells : Array Value) (hc : cells.size = s) (V : Value) (hV : V.cells.size = s) : Instr.fill (fun k => some (k * s, s)) cells [(0, V)] = some V.cells := by
  have key : ∀ (l : List (Value × Nat)) (cs : Array Value), l.foldl (fun cs (p : Value × Nat) => cs.setIfInBounds (0 * s + p.2) p.1) cs = l.foldl (fun cs (p : Value × Nat) => cs.setIfInBounds p.2 p.1) cs := by
    intro l; induction l with
    | nil => intro cs; rfl
    | cons x l ih => intro cs; simp only [List.foldl_cons, Nat.zero_mul, Nat.zero_add]
  have gen : ∀ (l : List Value) (k : Nat) (cs : Array Value), k + l.length = cs.size -> ((l.zipIdx k).foldl (fun cs (p : Value × Nat) => cs.setIfInBounds p.2 p.1) cs).toList = cs.toList.take k ++ l := by
    intro l
    induction l with
    | nil => intro k cs h; simp only [List.length_nil, Nat.add_zero] at h; rw [List.take_of_length_le (by simp [h])]; simp
    | cons x l ih =>
      intro k cs h
      simp only [List.zipIdx_cons, List.foldl_cons]
      rw [ih (k + 1) _ (by simp at h ⊢; omega)]
      have hk : k < cs.toList.length := by simp at h ⊢; omega
      rw [Array.toList_setIfInBounds, List.take_succ_eq_append_getElem (by simpa using hk)]
      simp only [List.getElem_set_self, List.append_assoc, List.singleton_append, List.cons_append, List.nil_append]
      congr 1
      rw [List.take_set, List.set_eq_of_length_le (by rw [List.length_take]; omega)]
  unfold Instr.fill
  simp only [Nat.zero_mul, hV, hc, ne_eq, not_true_eq_false, Nat.zero_add, Nat.lt_irrefl, gt_iff_lt, or_self, if_false, Instr.fill, Bool.or_self, decide_false, decide_true]
  simp only [<- Array.foldl_toList, Array.toList_zipIdx]
  have h2 := gen V.cells.toList 0 cells (by simp [hV, hc])
  have h3 : (List.foldl (fun cs (p : Value × Nat) => cs.setIfInBounds p.2 p.1) cells (V.cells.toList.zipIdx 0)) = V.cells := by
    apply Array.ext'
    rw [h2]; simp
  simpa using h3
theorem V3 {t s bytes : Nat} {x : Operand} {V : Value} {r : List Value} (ho : o.op = .buildSlice t 1 #[(0, x)]) (ht : apB P t s bytes = true) (h0 : 0 < s) (hs : s <= 16777216) (hx : ev f x = some V) (hV : V.cells.toList = r) (hl : r.length = s) (hw : Qu ops o f = some true := by rfl) : DR P ops o N f w (Qkb s w [r]) := by
  obtain ⟨e, i, Z, hu, hi, hZ, rfl, rfl, hzs⟩ := UT ht
  have hVs : V.cells.size = i.size := by rw [<- Array.length_toList, hV, hl]
  refine QlG (ps := [(0, V)]) (rs := [r]) ho hu hi hZ rfl h0 (by simp [evl, hx]) (by omega) ?_ (by simpa using hl) rfl (by unfold maxLen; omega) hw
  rw [if_neg (by omega), QhH i.size _ (by simp) V hVs]
  simp [<- hV]
end
section
variable {P : Program} {ops : Array Oper} {o : Oper} {N : Nat} {f : Fl} {w : World}
theorem Ez (e : TypeId) (d : TypeDesc) (he : P.underlying e = some d) (hd : (match d with | .struct _ | .array _ _ => true | _ => false) = false) (K : IntKind) (zs : List Int) (i : Nat) (hi : i < zs.length) :
    (part e (zs.map (Value.int K)).toArray i).run P w = .ok (.int K (Qb zs i)) w := by
  have hagg : (isAgg e).run P w = .ok false w := by
    unfold isAgg
    rw [Sem.run_bind, run_underlying he w]
    cases d <;> simp_all
  simp [part, Sem.run_bind, hagg, hi, Qb]
theorem UO (d : Nat) (e : TypeId) (K K' : IntKind) (xs ys : List Int) (he : P.underlying e = some (.int K')) : ∀ is : List Nat, (∀ i ∈ is, i < xs.length /\ i < ys.length) ->
    (Op.eqItems (d + 1) e 1 (xs.map (Value.int K)).toArray (ys.map (Value.int K)).toArray is).run P w = .ok (decide (∀ i ∈ is, Qb xs i = Qb ys i)) w
  | [], _ => by simp [Op.eqItems]
  | i :: is, h => by
    have h1 := Ez (w := w) e _ he rfl K xs i (h i (by simp)).1
    have h2 := Ez (w := w) e _ he rfl K ys i (h i (by simp)).2
    have h3 := UO d e K K' xs ys he is (fun j hj => h j (by simp [hj]))
    have h4 := run_equalIn_int (P := P) w d e K K' (Qb xs i) (Qb ys i) he
    simp only [Op.eqItems, Sem.run_bind, Nat.mul_one, h1, h2, h4, Result.andThen_ok]
    by_cases hb : Qb xs i = Qb ys i
    . simp [hb, h3]
    . simp [hb]
theorem QiR (t e : TypeId) (n : Nat) (hu : P.underlying t = some (.array n e)) (K K' : IntKind) (he : P.underlying e = some (.int K')) (hc : (P.info? e).map (·.size) = some 1) (hg : P.eqGuardType P.depth t = false) (x y : Operand) (xs ys : List Int) (hx : xs.length = n) (hy : ys.length = n) :
    (do eqGuard .eql t x y (XN K xs) (XN K ys); binOp .eql t (XN K xs) (XN K ys) : Sem Value).run P w = .ok (.bool (decide (xs = ys))) w := by
  cases hi : P.info? e with
  | none => rw [hi] at hc; cases hc
  | some i =>
    have hcells : P.cellsOf e = 1 := by simp [Program.cellsOf, hc]
    have hq : (eqGuard .eql t x y (XN K xs) (XN K ys)).run P w = .ok () w := by
      simp [eqGuard, XN, Sem.run_bind, hg]
    have hall : (∀ i ∈ List.range n, Qb xs i = Qb ys i) ↔ xs = ys := by
      constructor
      . intro h
        exact QZ (by omega) fun j hj => h j (List.mem_range.2 (by omega))
      . rintro rfl _ _; rfl
    simp only [Sem.run_bind, hq, Result.andThen_ok]
    unfold XN
    rw [run_eql_struct, show (10000 : Nat) = 9999 + 1 from rfl, run_equalIn_array w 9999 _ _ hu hi, hcells, show (9999 : Nat) = 9998 + 1 from rfl, UO 9998 e K K' xs ys he (List.range n) (fun i hi => by have := List.mem_range.1 hi; omega)]
    simp only [Result.andThen_ok]
    congr 2
    exact decide_eq_decide.2 hall
theorem Qct (t e : TypeId) (n : Nat) (hu : P.underlying t = some (.array n e)) (K K' : IntKind) (he : P.underlying e = some (.int K')) (hc : (P.info? e).map (·.size) = some 1) (d : Nat) (xs ys : List Int) (hx : xs.length = n) (hy : ys.length = n) :
    (Op.equalIn (d + 2) t (XN K xs) (XN K ys)).run P w = .ok (decide (xs = ys)) w := by
  cases hi : P.info? e with
  | none => rw [hi] at hc; cases hc
  | some i =>
    have hcells : P.cellsOf e = 1 := by simp [Program.cellsOf, hc]
    have hall : (∀ i ∈ List.range n, Qb xs i = Qb ys i) ↔ xs = ys := by
      constructor
      . intro h
        exact QZ (by omega) fun j hj => h j (List.mem_range.2 (by omega))
      . rintro rfl _ _; rfl
    unfold XN
    rw [run_equalIn_array w (d + 1) _ _ hu hi, hcells, UO d e K K' xs ys he (List.range n) (fun i hi => by have := List.mem_range.1 hi; omega)]
    congr 1
    exact decide_eq_decide.2 hall
theorem QlK {t t' e : TypeId} {x y : Operand} {n : Nat} {K K' : IntKind} {xs ys : List Int} (ho : o.op = .binOp .eql t x y t') (hu : P.underlying t = some (.array n e)) (he : P.underlying e = some (.int K')) (hc : ZV P e 1 = true) (hg : P.eqGuardType P.depth t = false) (hx : ev f x = some (XN K xs)) (hy : ev f y = some (XN K ys)) (hxl : xs.length = n) (hyl : ys.length = n) (hw : Qu ops o f = some true := by rfl) : DV P ops o N f w (.bool (decide (xs = ys))) := fun a ha => by
  have hx := ha.ev hx
  have hy := ha.ev hy
  refine Qt.pure (Qj ha hw) _ ?_ ⟨rfl, rfl⟩
  unfold execOp
  have h := QiR (w := w) t e n hu K K' he (Vz hc) hg x y xs ys hxl hyl
  simp only [ho, hx, hy, Sem.run_bind] at h ⊢
  rw [h]
  rfl
theorem QjF {t t' e : TypeId} {x y : Operand} {n : Nat} {K K' : IntKind} {xs ys : List Int} (ho : o.op = .binOp .neq t x y t') (hu : P.underlying t = some (.array n e)) (he : P.underlying e = some (.int K')) (hc : ZV P e 1 = true) (hg : P.eqGuardType P.depth t = false) (hx : ev f x = some (XN K xs)) (hy : ev f y = some (XN K ys)) (hxl : xs.length = n) (hyl : ys.length = n) (hw : Qu ops o f = some true := by rfl) : DV P ops o N f w (.bool (!decide (xs = ys))) := fun a ha => by
  have hx := ha.ev hx
  have hy := ha.ev hy
  have hq : (eqGuard .neq t x y (XN K xs) (XN K ys)).run P w = .ok () w := by
    simp [eqGuard, XN, Sem.run_bind, hg]
  have h := Qct (w := w) t e n hu K K' he (Vz hc) 9998 xs ys hxl hyl
  have e1 : binOp .neq t (XN K xs) (XN K ys) = (do pure (.bool (!(<- Op.equal t (XN K xs) (XN K ys))))) := rfl
  have e2 : (Op.equal t (XN K xs) (XN K ys)).run P w = .ok (decide (xs = ys)) w := h
  exact Qt.pure (Qj ha hw) _ (by unfold execOp; simp only [ho, hx, hy, Sem.run_bind, hq, Result.andThen_ok, e1, e2, Sem.run_pure]) ⟨rfl, rfl⟩
theorem QlJ {t t' : TypeId} {x y : Operand} {b c : Bool} (ho : o.op = .binOp .eql t x y t') (hu : P.underlying t = some .bool) (hx : ev f x = some (.bool b)) (hy : ev f y = some (.bool c)) (hw : Qu ops o f = some true := by rfl) : DV P ops o N f w (.bool (decide (b = c))) := fun a ha => by
  have hx := ha.ev hx
  have hy := ha.ev hy
  have e1 : binOp .eql t (.bool b) (.bool c) = (do pure (.bool (<- Op.equal t (.bool b) (.bool c)))) := rfl
  have e2 : (Op.equal t (.bool b) (.bool c)).run P w = .ok (b == c) w := run_equalIn_bool' w 9999 t b c hu
  have e3 : (b == c) = decide (b = c) := by cases b <;> cases c <;> rfl
  exact Qt.pure (Qj ha hw) _ (by unfold execOp; simp only [ho, hx, hy, eqGuard, Sem.run_bind, Sem.run_pure, Result.andThen_ok, e1]; simp [e2, e3]) ⟨rfl, rfl⟩
theorem QjE {t t' : TypeId} {x y : Operand} {b c : Bool} (ho : o.op = .binOp .neq t x y t') (hu : P.underlying t = some .bool) (hx : ev f x = some (.bool b)) (hy : ev f y = some (.bool c)) (hw : Qu ops o f = some true := by rfl) : DV P ops o N f w (.bool (!decide (b = c))) := fun a ha => by
  have hx := ha.ev hx
  have hy := ha.ev hy
  have e1 : binOp .neq t (.bool b) (.bool c) = (do pure (.bool (!(<- Op.equal t (.bool b) (.bool c))))) := rfl
  have e2 : (Op.equal t (.bool b) (.bool c)).run P w = .ok (b == c) w := run_equalIn_bool' w 9999 t b c hu
  have e3 : (b == c) = decide (b = c) := by cases b <;> cases c <;> rfl
  exact Qt.pure (Qj ha hw) _ (by unfold execOp; simp only [ho, hx, hy, eqGuard, Sem.run_bind, Sem.run_pure, Result.andThen_ok, e1]; simp [e2, e3]) ⟨rfl, rfl⟩
end
end Go.Proofs.YtbiboamaigedjaaGreatDoor
namespace Go.Proofs.YtbiboamaigedjaaGreatDoor
open Go.ChangeShapes Go.WideShapes Go.ChangeAt Go.RowKit
set_option linter.unusedVariables false

section
variable {P : Program} {H : Type} {enc : TypeId × Value -> H} {W : World} {base : Nat} {sp : Nat -> Bool} {held : Bool}
end
end Go.Proofs.YtbiboamaigedjaaGreatDoor
namespace Go.Proofs.YtbiboamaigedjaaGreatDoor
open Go.RowKit
set_option linter.unusedVariables false
set_option linter.unusedSimpArgs false
set_option maxRecDepth 8000
set_option maxHeartbeats 2000000

/-- A literal of nothing: it has no room. -/
def Qkc (s base : Nat) (u : Value) (w : World) : Prop := ∃ B, base <= B /\ u = .slice (some ⟨B, 0, none⟩) 0 0 /\ OwS s w u [] B
/-- A slice of the call's own, behind the world of the base. -/
def Qnx (s base : Nat) (rs : List (List Value)) (u : Value) (w : World) : Prop := ∃ B, base <= B /\ OwS s w u rs B
section
variable {P : Program} {ops : Array Oper} {o : Oper} {N : Nat} {f : Fl} {w : World}
theorem QbK {t s bytes : Nat} (ho : o.op = .buildSlice t 0 #[]) (ht : apB P t s bytes = true) (h0 : 0 < s) (hw : Qu ops o f = some true := by rfl) : DR P ops o N f w (fun u W => Below w.heap.size w W /\ Qkc s w.heap.size u W) := fun a ha => by
  obtain ⟨e, i, Z, hu, hi, hZ, rfl, rfl, hzs⟩ := UT ht
  have hrun := Vt (P := P) (w := w) hu hi hZ 0 #[] (by omega) (cs := #[]) (by simp [Instr.fill])
  exact Qt.of_wp (Qj ha hw) fun K hK => by
    unfold Oper.wp execOp
    simp only [ho, Sem.run_bind, List.map_toArray, List.map_nil, hrun, Sem.run_pure, Result.andThen_ok]
    obtain ⟨n1, n2, n3⟩ := KY w e []
    exact hK _ _ ⟨n2, _, Nat.le_refl _, rfl, h0, (fun r hr => by cases hr), 0, [], rfl, Nat.le_refl _, Nat.zero_le _, by simp, by simpa using n1⟩
theorem QjM {t s bytes B : Nat} {x y : Operand} {v v2 : Value} {rs news : List (List Value)} {L : List Nat} (ho : o.op = .call { callee := .builtin .append, args := #[x, y], argTypes := #[t, t] }) (ht : apB P t s bytes = true) (hx : ev f x = some v) (hy : ev f y = some v2)
    (h : OwS s w v rs B) (h2 : Zh s L w v2 news) (h1 : ∀ r ∈ news, ∀ u ∈ r, u.oneCell' = true) (hm : rs.length + news.length <= maxLen) (hby : (rs.length + news.length) * bytes <= 140737488355328) (hw : Qu ops o f = some true := by rfl) : DR P ops o N f w (GrO s B w (rs ++ news)) := fun a ha => by
  obtain ⟨e, i, Z, hu, hi, hz, rfl, rfl, hzs⟩ := UT ht
  have hx := ha.ev hx
  have hy := ha.ev hy
  obtain ⟨v', w', B', hr, h3, h4⟩ := QiT (w := w) (t := t) (ty := o.type) hu hi hz hzs h h2 h1 hm hby
  exact Qt.of_wp (Qj ha hw) fun K hK => by
    unfold Oper.wp execOp
    simp only [ho, resolve, invoke, builtin, Sem.run_bind, Sem.run_pure, Result.andThen_ok, List.map_toArray, List.map_cons, List.map_nil, hx, hy, hr]
    exact hK _ _ ⟨B', h3, h4⟩
/-- An append to a literal of nothing: nothing changes, or what comes is new. -/
theorem QlM {t s bytes base : Nat} {x y : Operand} {u v2 : Value} {news : List (List Value)} {L : List Nat} (ho : o.op = .call { callee := .builtin .append, args := #[x, y], argTypes := #[t, t] }) (ht : apB P t s bytes = true) (hx : ev f x = some u) (hy : ev f y = some v2)
    (h : Qkc s base u w) (h2 : Zh s L w v2 news) (hm : news.length <= maxLen) (hby : news.length * bytes <= 140737488355328) (hb : base <= w.heap.size) (hw : Qu ops o f = some true := by rfl) : DR P ops o N f w (fun u W => Below w.heap.size w W /\ Qnx s base news u W) := fun a ha => by
  obtain ⟨B, h3, rfl, h4⟩ := h
  by_cases hn : news = []
  . subst hn
    have ht0 := ht
    obtain ⟨e, i, Z, hu, hi, hz, rfl, rfl, hzs⟩ := UT ht
    have hx := ha.ev hx
    have hy := ha.ev hy
    obtain ⟨_, _, a2, cap2, rfl, hd1, hd2, hd3, hd4⟩ := h2
    have hr : (Builtin.append_ #[t, t] o.type #[.slice (some ⟨B, 0, none⟩) 0 0, .slice a2 0 cap2]).run P w = .ok (.slice (some ⟨B, 0, none⟩) 0 0) w := by
      cases a2 with
      | none => simp [Builtin.append_, run_underlying hu, sizeOf, typeInfo, hi, Builtin.lenOf, Builtin.firstCells, storeCells]
      | some a2 => simp [Builtin.append_, run_underlying hu, sizeOf, typeInfo, hi, Builtin.lenOf, Builtin.firstCells, loadCells, loadCellsFrom, storeCells]
    exact Qt.of_wp (Qj ha hw) fun K hK => by
      unfold Oper.wp execOp
      simp only [List.length_nil] at hy
      simp only [ho, resolve, invoke, builtin, Sem.run_bind, Sem.run_pure, Result.andThen_ok, List.map_toArray, List.map_cons, List.map_nil, hx, hy, hr]
      exact hK _ _ ⟨Below.refl _ _, B, h3, h4⟩
  . have hrd : Zh s [] w (.slice (some ⟨B, 0, none⟩) ([] : List (List Value)).length ([] : List (List Value)).length) [] := h4.rd (by simp)
    have := QhX (N := N) (f := f) (P := P) (ops := ops) (o := o) (w := w) (s := s) (rs := []) (news := news) (L := []) ho ht hx hy hrd (h2.less (by simp)) hn (by simpa using hm) (by simpa using hby) hw
    exact (this.mono fun v W' h => ⟨h.2.1, _, hb, by simpa using h.1⟩) a ha
end
section
variable {P : Program} {N : Nat} {sd : List (Option Tmp × VS)} {dl : List (List Nat)}
end
section
variable {P : Program} {ops : Array Oper} {o : Oper} {N : Nat} {f : Fl} {w : World}
end
end Go.Proofs.YtbiboamaigedjaaGreatDoor
namespace Go.Proofs.YtbiboamaigedjaaGreatDoor
open Go.RowKit
set_option linter.unusedVariables false
set_option linter.constructorNameAsVariable false
set_option linter.unusedSimpArgs false
/-- A block of one's own as rows, all that there is room for. -/
def RwB (s : Nat) (w : World) (B : Nat) (R : List (List Value)) : Prop := 0 < s /\ (∀ r ∈ R, r.length = s) /\ R.length <= maxLen /\ Q8 w B R.flatten
theorem QdG {s : Nat} : ∀ (n : Nat) (l : List Value), l.length = n * s -> ∃ rows : List (List Value), rows.length = n /\ (∀ r ∈ rows, r.length = s) /\ rows.flatten = l
  | 0, l, h => ⟨[], rfl, fun r hr => (by cases hr), (by rw [Nat.zero_mul] at h; rw [List.length_eq_zero_iff.1 h]; rfl)⟩
  | n + 1, l, h => by
    rw [Nat.succ_mul] at h
    obtain ⟨rows, h1, h2, h3⟩ := QdG (s := s) n (l.drop s) (by rw [List.length_drop]; omega)
    refine ⟨l.take s :: rows, by simp [h1], fun r hr => ?_, by rw [List.flatten_cons, h3, List.take_append_drop]⟩
    rcases List.mem_cons.1 hr with rfl | hr
    . rw [List.length_take]; omega
    . exact h2 r hr
theorem OwS.open {s : Nat} {w : World} {v : Value} {rs : List (List Value)} {B : Nat} (h : OwS s w v rs B) : ∃ sp, v = .slice (some ⟨B, 0, none⟩) rs.length (rs ++ sp).length /\ RwB s w B (rs ++ sp) := by
  obtain ⟨h0, hr, cap, sp, rfl, h2, h3, h4, h5⟩ := h
  obtain ⟨rows, k1, k2, rfl⟩ := QdG (cap - rs.length) sp h4
  have e : (rs ++ rows).length = cap := by rw [List.length_append, k1]; omega
  refine ⟨rows, by rw [e], h0, fun r hr' => ?_, by rw [e]; exact h3, by rw [List.flatten_append]; exact h5⟩
  rcases List.mem_append.1 hr' with h | h
  . exact hr r h
  . exact k2 r h
theorem RwB.own {s : Nat} {w : World} {B : Nat} {rs sp : List (List Value)} (h : RwB s w B (rs ++ sp)) : OwS s w (.slice (some ⟨B, 0, none⟩) rs.length (rs ++ sp).length) rs B := by
  obtain ⟨h0, hr, hm, hb⟩ := h
  have hsp : ∀ r ∈ sp, r.length = s := fun r hr' => hr r (List.mem_append.2 (.inr hr'))
  refine ⟨h0, fun r hr' => hr r (List.mem_append.2 (.inl hr')), _, sp.flatten, rfl, by simp, hm, ?_, by rw [<- List.flatten_append]; exact hb⟩
  rw [Yx hsp, List.length_append, Nat.add_sub_cancel_left]
/-- Where a part begins: a part with no room begins where the whole does. -/
def Ee (c l o0 s : Nat) : Nat := if c = l then o0 else o0 + l * s
theorem Qjg {c l s B o0 : Nat} : (if c = l then some (⟨B, o0, none⟩ : Addr) else some (if l * s = 0 then ⟨B, o0, none⟩ else ⟨B, o0 + l * s, none⟩)) = some ⟨B, Ee c l o0 s, none⟩ := by
  unfold Ee
  split
  . rfl
  . split
    . rename_i h; rw [h]; rfl
    . rfl
/-- What a part of it reads. -/
theorem RwB.part {s : Nat} {w : World} {B : Nat} {R : List (List Value)} (h : RwB s w B R) {L : List Nat} (hB : B ∉ L) {lo n c o1 : Nat} (ho : n ≠ 0 -> o1 = lo * s) (hn : n <= c) (hc : lo + c <= R.length) : Zh s L w (.slice (some ⟨B, o1, none⟩) n c) ((R.drop lo).take n) := by
  obtain ⟨h0, hr, hm, hb⟩ := h
  have hl : ((R.drop lo).take n).length = n := by rw [List.length_take, List.length_drop]; omega
  refine ⟨h0, fun r hr' => hr r (List.mem_of_mem_drop (List.mem_of_mem_take hr')), _, c, by rw [hl], by rw [hl]; exact hn, by omega, fun h => (by cases h), fun hne => ⟨B, o1, rfl, hB, ?_⟩⟩
  rw [ho (fun e => hne (by rw [e, List.take_zero]))]
  have := UP hb.range (lo * s) (n * s)
  rw [GQ lo hr, ES n (fun r hr' => hr r (List.mem_of_mem_drop hr')), Nat.zero_add] at this
  exact this
section
variable {P : Program} {ops : Array Oper} {o : Oper} {N : Nat} {f : Fl} {w : World}
end
-- contracts of what writes to a block that it is given
/-- Of what was there just this block may have changed. -/
structure Chg (B : Nat) (w w' : World) : Prop where
  os : w'.os = w.os
  tape : w'.tape = w.tape
  output : w'.output = w.output
  size : w.heap.size <= w'.heap.size
  block : ∀ k, k < w.heap.size -> k ≠ B -> w'.heap[k]? = w.heap[k]?
section
variable {P : Program} {ops : Array Oper} {o : Oper} {N : Nat} {f : Fl} {w : World} {R : Value -> World -> Prop} {fn : Func}
end
end Go.Proofs.YtbiboamaigedjaaGreatDoor
namespace Go.Proofs.YtbiboamaigedjaaGreatDoor
open Go.RowKit
set_option linter.unusedVariables false
set_option linter.unusedSimpArgs false
set_option maxRecDepth 8000
set_option maxHeartbeats 2000000

section
variable {P : Program} {ops : Array Oper} {o : Oper} {N : Nat} {f : Fl} {w : World}
end
/-- Nil, or new since the base: a block of its own. -/
def Qaj (s base : Nat) (rs : List (List Value)) (u : Value) (w : World) : Prop := (u = .slice none 0 0 /\ rs = [] /\ 0 < s) \/ ∃ B sp, base <= B /\ u = .slice (some ⟨B, 0, none⟩) rs.length (rs ++ sp).length /\ RwB s w B (rs ++ sp) /\ (rs = [] -> sp = [])
theorem Qaj.of_own {s base B : Nat} {rs : List (List Value)} {u : Value} {w : World} (h : OwS s w u rs B) (hb : base <= B) (hn : rs ≠ []) : Qaj s base rs u w := by
  obtain ⟨sp, h1, h2⟩ := h.open
  exact .inr ⟨B, sp, hb, h1, h2, fun e => absurd e hn⟩
theorem Qaj.of_lit {s base : Nat} {u : Value} {w : World} (h : Qkc s base u w) : Qaj s base [] u w := by
  obtain ⟨B, hb, rfl, ho⟩ := h
  obtain ⟨sp, h1, h2⟩ := ho.open
  have e : sp = [] := by
    have := congrArg (fun v : Value => match v with | .slice _ _ c => c | _ => 0) h1
    simp at this
    exact List.length_eq_zero_iff.1 this.symm
  subst e
  exact .inr ⟨B, [], hb, rfl, h2, fun _ => rfl⟩
section
variable {P : Program} {ops : Array Oper} {o : Oper} {N : Nat} {f : Fl} {w : World} {R : Value -> World -> Prop}
/-- An append to a literal of nothing. -/
theorem QhW {t s bytes base : Nat} {x y : Operand} {u v2 : Value} {news : List (List Value)} {L : List Nat} (ho : o.op = .call { callee := .builtin .append, args := #[x, y], argTypes := #[t, t] }) (ht : apB P t s bytes = true) (hx : ev f x = some u) (hy : ev f y = some v2)
    (h : Qkc s base u w) (h2 : Zh s L w v2 news) (h1 : ∀ r ∈ news, ∀ u ∈ r, u.oneCell' = true) (hm : news.length <= maxLen) (hby : news.length * bytes <= 140737488355328) (hb : base <= w.heap.size) (hw : Qu ops o f = some true := by rfl) : DR P ops o N f w fun u W => Below w.heap.size w W /\ Qaj s base news u W := fun a ha => by
  by_cases hn : news = []
  . subst hn
    obtain ⟨e, q, Z, hu, hi, hz, rfl, rfl, hzs⟩ := UT ht
    have hx := ha.ev hx
    have hy := ha.ev hy
    have hN := Qaj.of_lit h
    obtain ⟨B, hB, rfl, ho'⟩ := h
    obtain ⟨_, hl2, a2, cap2, rfl, hd1, hd2, hd3, hd4⟩ := h2
    have hr0 : (Builtin.append_ #[t, t] o.type #[.slice (some ⟨B, 0, none⟩) 0 0, .slice a2 0 cap2]).run P w = .ok (.slice (some ⟨B, 0, none⟩) 0 0) w := by
      cases a2 with
      | none => simp [Builtin.append_, run_underlying hu, sizeOf, typeInfo, hi, Builtin.lenOf, Builtin.firstCells, storeCells]
      | some a2 => simp [Builtin.append_, run_underlying hu, sizeOf, typeInfo, hi, Builtin.lenOf, Builtin.firstCells, loadCells, loadCellsFrom, storeCells]
    refine Qt.of_wp (Qj ha hw) fun K hK => ?_
    unfold Oper.wp execOp
    simp only [List.length_nil] at hy
    simp only [ho, resolve, invoke, builtin, Sem.run_bind, Sem.run_pure, Result.andThen_ok, List.map_toArray, List.map_cons, List.map_nil, hx, hy, hr0]
    exact hK _ _ ⟨Below.refl _ _, hN⟩
  . exact Qt.mono (QlM ho ht hx hy h h2 hm hby hb hw a ha) fun v W ⟨hb', B, hB, hO⟩ => ⟨hb', Qaj.of_own hO hB hn⟩
end
/-- A text's byte. -/
def atS (s : ByteArray) (k : Nat) : Int := (s.data[k]?.getD 0).toNat
theorem QeB {α : Type} {enc : α -> List Value} {xs : List α} {i : Nat} {x : α} (h : xs[i]? = some x) : (xs.map enc)[i]? = some (enc x) := by rw [List.getElem?_map, h]; rfl
section
variable {P : Program} {ops : Array Oper} {o : Oper} {N : Nat} {f : Fl} {w : World}
theorem QmH {t : TypeId} {x y : Operand} {s : ByteArray} {K : IntKind} {i : Int} (k : Nat) (ho : o.op = .index t x y) (ht : P.underlying t = some .string) (hx : ev f x = some (.string s)) (hy : ev f y = some (.int K i)) (hi : i = (k : Int)) (hk : k < s.size) (hw : Qu ops o f = some true := by rfl) : DV P ops o N f w (.int .u8 (atS s k)) := fun a ha => by
  subst hi
  have hx := ha.ev hx
  have hy := ha.ev hy
  have hk' : k < s.data.size := hk
  have e : s[k]? = some (s.data[k]?.getD 0) := by
    rw [getElem?_pos s k hk, Array.getElem?_eq_getElem hk']
    rfl
  refine Qt.pure (Qj ha hw) _ ?_ ⟨rfl, rfl⟩
  unfold execOp
  simp only [ho, hx, hy, Instr.index, asIntOf, Sem.run_bind, Sem.run_pure, Result.andThen_ok, run_underlying ht]
  have h0 : (0 : Int) <= (k : Int) := by omega
  simp [h0, e, atS]
end
section
variable {α : Type} {g : α -> Bool} {r : α -> α -> Bool} {n : Nat}
end

end Go.Proofs.YtbiboamaigedjaaGreatDoor
namespace Go.Proofs.YtbiboamaigedjaaGreatDoor
open Go.RowKit Go.Sort
set_option linter.unusedVariables false
set_option linter.unusedSimpArgs false
-- the order of lists of bytes
/-- Nil, or a slice of one's own that is new since the base. -/
def Yp (s base : Nat) (rs : List (List Value)) (u : Value) (w : World) : Prop := (u = .slice none 0 0 /\ rs = [] /\ 0 < s) \/ ∃ B, base <= B /\ OwS s w u rs B
theorem Yp.below {s base : Nat} {rs : List (List Value)} {u : Value} {w w' : World} (h : Yp s base rs u w) (hb : Below w.heap.size w w') : Yp s base rs u w' := by
  rcases h with h | ⟨B, h1, h2⟩
  . exact .inl h
  . exact .inr ⟨B, h1, h2.below hb⟩
theorem Yp.rd {s base : Nat} {rs : List (List Value)} {u : Value} {w : World} (h : Yp s base rs u w) {L : List Nat} (hL : ∀ x ∈ L, x < base) : Zh s L w u rs := by
  rcases h with ⟨rfl, rfl, h0⟩ | ⟨B, h1, h2⟩
  . exact Zh.nil h0
  . exact h2.rd (fun hx => by have := hL B hx; omega)
theorem YB.from_base {B B' base : Nat} {w w' : World} (h : YB B B' w w') (hB : base <= B) (hs : base <= w.heap.size) : Below base w w' := ⟨h.os, h.tape, h.output, h.size, fun k hk => h.block k (by omega) (by omega)⟩
section
variable {P : Program} {ops : Array Oper} {o : Oper} {N : Nat} {f : Fl} {w : World} {R : Value -> World -> Prop}
/-- An append to what is new. -/
theorem Jz {t s bytes base : Nat} {x y : Operand} {u v2 : Value} {rs news : List (List Value)} {L : List Nat} (ho : o.op = .call { callee := .builtin .append, args := #[x, y], argTypes := #[t, t] }) (ht : apB P t s bytes = true) (hx : ev f x = some u) (hy : ev f y = some v2)
    (h : Yp s base rs u w) (h2 : Zh s L w v2 news) (h1 : ∀ r ∈ news, ∀ u ∈ r, u.oneCell' = true) (hm : rs.length + news.length <= maxLen) (hby : (rs.length + news.length) * bytes <= 140737488355328) (hb : base <= w.heap.size) (hw : Qu ops o f = some true := by rfl) : DR P ops o N f w fun u' W => Yp s base (rs ++ news) u' W /\ Below base w W := fun a ha => by
  rcases h with ⟨rfl, rfl, h0⟩ | ⟨B, hB, hO⟩
  . by_cases hn : news = []
    . subst hn
      obtain ⟨e, q, Z, hu, hi, hz, rfl, rfl, hzs⟩ := UT ht
      have hx := ha.ev hx
      have hy := ha.ev hy
      obtain ⟨_, hl2, a2, cap2, rfl, hd1, hd2, hd3, hd4⟩ := h2
      have hr0 : (Builtin.append_ #[t, t] o.type #[.slice none 0 0, .slice a2 0 cap2]).run P w = .ok (.slice none 0 0) w := by
        cases a2 with
        | none => simp [Builtin.append_, run_underlying hu, sizeOf, typeInfo, hi, Builtin.lenOf, Builtin.firstCells, storeCells]
        | some a2 => simp [Builtin.append_, run_underlying hu, sizeOf, typeInfo, hi, Builtin.lenOf, Builtin.firstCells, loadCells, loadCellsFrom, storeCells]
      refine Qt.of_wp (Qj ha hw) fun K hK => ?_
      unfold Oper.wp execOp
      simp only [List.length_nil] at hy
      simp only [ho, resolve, invoke, builtin, Sem.run_bind, Sem.run_pure, Result.andThen_ok, List.map_toArray, List.map_cons, List.map_nil, hx, hy, hr0]
      exact hK _ _ ⟨.inl ⟨rfl, rfl, h0⟩, Below.refl _ _⟩
    . refine Qt.mono (QhX (rs := []) ho ht hx hy (Zh.nil (L := L) h0) h2 hn hm hby hw a ha) fun v W ⟨k1, k2, k3⟩ => ⟨.inr ⟨_, hb, k1⟩, k2.mono hb⟩
  . exact Qt.mono (QjM ho ht hx hy hO h2 h1 hm hby hw a ha) fun v W ⟨B', k1, k2⟩ => ⟨.inr ⟨B', k2.le hB hb, k1⟩, k2.from_base hB hb⟩
end
end Go.Proofs.YtbiboamaigedjaaGreatDoor
namespace Go.Proofs.YtbiboamaigedjaaGreatDoor
open Go.RowKit
set_option linter.unusedVariables false
set_option linter.unusedSimpArgs false
set_option maxRecDepth 8000
set_option maxHeartbeats 2000000

section
variable {P : Program} {N : Nat} {sd : List (Option Tmp × VS)} {dl : List (List Nat)}
end
section
variable {P : Program} {ops : Array Oper} {o : Oper} {N : Nat} {f : Fl} {w : World}
end
section
variable {P : Program} {ops : Array Oper} {md : Region.Mode}
/-- The law of XOrd, where what waits for one is not asked to bear it. G holds throughout, said of which operations have run; what is shown of an operation (F) bears what others do to the world (R). -/
theorem E5 {Q : Exit -> Act -> World -> Prop} (hb : Ud md ops = true) (a : Act) (G : (Nat -> Bool) -> World -> Prop) (F : Eb) (R : Nat -> (Nat -> Value) -> World -> World -> Prop)
    (hF : ∀ i f w w' j g, R i f w w' -> j ≠ i -> i ∉ QV md ops j -> F j g w -> F j g w')
    (hstep : ∀ i o, ops[i]? = some o -> ∀ L f w, L i = false -> (∀ j, i ∈ QV md ops j -> L j = false) -> G L w -> (∀ j ∈ Qz md o, F j (Zj f (j :: QV md ops j)) w) ->
      Qt P ops o (Xe ops f (Qz md o) a) w fun v w' => R i (Zj f (Qz md o)) w w' /\ G (Yq L i true) w' /\ F i (Zj (Yq f i v) (i :: Qz md o)) w')
    (hend : ∀ L f w, (∀ j, L j = decide (j < ops.size)) -> G L w -> (∀ j, j < ops.size -> F j (Zj f (j :: QV md ops j)) w) -> Q .normal (Xe ops f (List.range ops.size) a) w) :
    ∀ (fuel : Nat) (listed : Array Bool) (f : Nat -> Value) (a' : Act) (w : World), listed.size = ops.size -> (listed.toList.countP (fun b => !b) <= fuel) ->
      (∀ j, listed.getD j false = true -> ∀ k ∈ QV md ops j, listed.getD k false = true) ->
      Q4 ops (fun j => listed.getD j false = true) f a a' -> G (fun j => listed.getD j false) w -> (∀ j, listed.getD j false = true -> F j (Zj f (j :: QV md ops j)) w) -> wpAny P md ops Q fuel listed a' w := by
  have ho := Fu hb
  have fin : ∀ (listed : Array Bool) (f : Nat -> Value) (a' : Act) (w : World), listed.size = ops.size -> Region.ready md ops listed = [] ->
      Q4 ops (fun j => listed.getD j false = true) f a a' -> G (fun j => listed.getD j false) w -> (∀ j, listed.getD j false = true -> F j (Zj f (j :: QV md ops j)) w) -> Q .normal a' w := by
    intro listed f a' w hsz hr hag hg hf
    have hl := U3 hb hsz hr
    have hout : ∀ j, listed.getD j false = true -> j < ops.size := by
      intro j h
      rcases Nat.lt_or_ge j ops.size with h' | h'
      . exact h'
      . simp [Array.getElem?_eq_none (by omega : listed.size <= j)] at h
    have e : a' = Xe ops f (List.range ops.size) a := by
      refine hag.unique ((Q4.of ho f a (List.range ops.size)).congr (fun j => ?_) (fun _ _ => rfl))
      rw [List.mem_range]
      exact ⟨hl j, hout j⟩
    rw [e]
    refine hend _ f w (fun j => ?_) hg fun j hj => hf j (hl j hj)
    by_cases hj : j < ops.size
    . rw [hl j hj]; simp [hj]
    . have : ¬ listed.getD j false = true := fun h => hj (hout j h)
      rw [Bool.not_eq_true] at this
      rw [this]; simp [hj]
  intro fuel
  induction fuel with
  | zero =>
    intro listed f a' w hsz hc hcl hag hg hf
    have hr : Region.ready md ops listed = [] := by
      rw [List.eq_nil_iff_forall_not_mem]
      intro j hj
      obtain ⟨h0, o, hoj, _⟩ := mem_ready.1 hj
      have hjs : j < ops.size := (Array.getElem?_eq_some_iff.1 hoj).1
      have hc0 : listed.toList.countP (fun b => !b) = 0 := by omega
      rw [List.countP_eq_zero] at hc0
      have h1 := hc0 listed[j] (by simp)
      rw [Array.getD_eq_getD_getElem?, Array.getElem?_eq_getElem (by omega)] at h0
      simp only [Option.getD_some] at h0
      rw [h0] at h1
      exact h1 rfl
    exact ⟨hr, fin listed f a' w hsz hr hag hg hf⟩
  | succ fuel ih =>
    intro listed f a' w hsz hc hcl hag hg hf
    refine ⟨fun hr => fin listed f a' w hsz hr hag hg hf, fun i hi => ?_⟩
    obtain ⟨h0, o, hoi, hdep⟩ := mem_ready.1 hi
    have his : i < ops.size := (Array.getElem?_eq_some_iff.1 hoi).1
    obtain ⟨hsel, hlt, hlook⟩ := Vk hb hoi
    have hdl : ∀ j ∈ Qz md o, listed.getD j false = true := by
      intro j hj
      obtain ⟨e, he, rfl⟩ := List.mem_map.1 hj
      obtain ⟨he1, he2⟩ := List.mem_filter.1 he
      exact hdep e (by simpa using he1) he2
    have hun : ¬ listed.getD i false = true := by
      intro h
      rw [Array.getD_eq_getD_getElem?, Array.getElem?_eq_getElem (by omega)] at h0 h
      simp only [Option.getD_some] at h0 h
      rw [h0] at h
      cases h
    have hA := Q4.of ho f a (Qz md o)
    have hdst : o.dst = Xd ops i := by simp [Xd, hoi]
    have hset : ∀ j, (listed.setIfInBounds i true).getD j false = Yq (fun j => listed.getD j false) i true j := by
      intro j
      unfold Yq
      by_cases e : j = i
      . subst e
        simp [Array.getD_eq_getD_getElem?, hsz, his]
      . rw [getD_set_ne false (fun h => e h.symm), if_neg e]
    refine Qt.wpOp hoi hsel (a := Xe ops f (Qz md o) a) (by rw [hag.size, hA.size]) (fun t ht => ?_)
      (hstep i o hoi (fun j => listed.getD j false) f w (by simpa using hun) (fun j hj => by
        rw [<- Bool.not_eq_true]
        exact fun h => hun (hcl j h i hj)) hg fun j hj => hf j (hdl j hj)) fun v w' hR => ?_
    . by_cases hts : t < a.tmps.size
      . by_cases e : ∃ j, Xd ops j = some t
        . obtain ⟨j, hd⟩ := e
          have hj' : j < ops.size := by
            rcases Nat.lt_or_ge j ops.size with h | h
            . exact h
            . simp [Xd, Array.getElem?_eq_none h] at hd
          have hl := hlook j t hj' hd
          by_cases hjd : j ∈ Qz md o
          . rw [hag.put j t (hdl j hjd) hd hts, hA.put j t hjd hd hts]
          . have hjl : ¬ listed.getD j false = true := by
              intro hjl
              rcases hl.1 ht with h | h | h
              . exact hun (h ▸ hjl)
              . exact hjd h
              . exact hun (hcl j hjl i h)
            rw [hag.same t (fun k hk hkd => hjl (ho k j t hkd hd ▸ hk)), hA.same t (fun k hk hkd => hjd (ho k j t hkd hd ▸ hk))]
        . have hn : ∀ j, Xd ops j ≠ some t := fun j hj => e ⟨j, hj⟩
          rw [hag.same t (fun j _ => hn j), hA.same t (fun j _ => hn j)]
      . rw [Array.getElem?_eq_none (by rw [hag.size]; exact Nat.le_of_not_lt hts), Array.getElem?_eq_none (by rw [hA.size]; exact Nat.le_of_not_lt hts)]
    . obtain ⟨hR1, hR3, hR2⟩ := hR
      have hset' : ∀ j, (listed.setIfInBounds i true).getD j false = true ↔ (j = i \/ listed.getD j false = true) := by
        intro j
        rw [hset j]
        unfold Yq
        by_cases e : j = i <;> simp [e]
      rw [hdst]
      refine ih (listed.setIfInBounds i true) (Yq f i v) _ w' (by simp [hsz]) ?_ ?_ ?_ (by rw [show (fun j => (listed.setIfInBounds i true).getD j false) = Yq (fun j => listed.getD j false) i true from funext hset]; exact hR3) ?_
      . have hc2 : (listed.setIfInBounds i true).toList.countP (fun b => !b) + 1 <= listed.toList.countP (fun b => !b) := by
          rw [Array.toList_setIfInBounds]
          have hlen : i < listed.toList.length := by simpa [hsz] using his
          have hli : listed.toList[i] = false := by
            rw [Array.getD_eq_getD_getElem?, Array.getElem?_eq_getElem (by omega)] at h0
            simpa using h0
          rw [List.countP_set hlen, hli]
          have : 0 < listed.toList.countP (fun b => !b) := List.countP_pos_iff.2 ⟨false, by rw [<- hli]; exact List.getElem_mem _, rfl⟩
          simp only [Bool.not_false, Bool.not_true, if_true, Bool.false_eq_true, if_false]
          omega
        omega
      . intro j hj k hk
        rw [hset'] at hj ⊢
        rcases hj with rfl | hj
        . rw [Yk hoi] at hk
          exact .inr (hdl k hk)
        . exact .inr (hcl j hj k hk)
      . exact hag.step ho i v hset' (fun j hji _ => by simp [Yq, hji]) (by simp [Yq])
      . intro j hj
        rw [hset'] at hj
        by_cases e : j = i
        . subst e
          rw [Yk hoi]
          exact hR2
        . have hjl := hj.resolve_left e
          have hnc : (j :: QV md ops j).contains i = false := by
            rw [<- Bool.not_eq_true, List.contains_iff_mem, List.mem_cons]
            rintro (h | h)
            . exact e h.symm
            . exact hun (hcl j hjl i h)
          rw [GF hnc]
          exact hF i _ w w' j _ hR1 e (fun h => hun (hcl j hjl i h)) (hf j hjl)
end
section
variable {P : Program} {N : Nat} {sd : List (Option Tmp × VS)} {dl : List (List Nat)} {G : Bool -> World -> Prop}
end
/-- What was there at a base is as it was (the list is of no weight). -/
def XY (w1 : World) (L : List Nat) (w : World) : Prop := Below w1.heap.size w1 w
theorem XY.below {w1 w w' : World} {L : List Nat} (h : XY w1 L w) (hb : Below w.heap.size w w') : XY w1 L w' := Below.trans h (hb.mono (Below.size h))
section
variable {P : Program} {ops : Array Oper} {o : Oper} {N : Nat} {f : Fl} {w : World}
theorem Jx {x : Operand} {a : Addr} (ho : o.op = .nilCheck x) (hx : ev f x = some (.pointer (some a))) (hw : Qu ops o f = some true := by rfl) : DV P ops o N f w (.pointer (some a)) := fun k ha => by
  have hx := ha.ev hx
  exact Qt.pure (Qj ha hw) _ (by unfold execOp; simp [ho, hx, Sem.run_bind, Sem.run_pure]) ⟨rfl, rfl⟩
end
end Go.Proofs.YtbiboamaigedjaaGreatDoor
namespace Go.Proofs.YtbiboamaigedjaaGreatDoor
open Go.RowKit
set_option linter.unusedVariables false
set_option linter.constructorNameAsVariable false
set_option linter.unusedSimpArgs false

/-- What is known of a type: its cells, whether it is a row, its fields' places, an array's length and element, a number's kind, what is nothing of it. -/
structure TI where
  s : Nat
  g : Bool
  o : List (Nat × Nat) := []
  n : Nat := 0
  e : Nat := 0
  q : Nat := 0
  k : Option IntKind := none
  y : Nat := 0
  z : Option (List SV) := none
  u : Bool := false
inductive Tr where
  | n
  | t (l : Tr) (x : Option TI) (r : Tr)
def Tr.get : Tr -> Nat -> Option TI
  | .n, _ => none
  | .t l x r, q => match Nat.beq q 0 with
    | true => x
    | false => match Nat.beq (Nat.mod q 2) 1 with
      | true => l.get (Nat.div q 2)
      | false => r.get (Nat.sub (Nat.div q 2) 1)
structure TT where
  M : Nat
  tr : Tr
  pq : FuncId -> List SV -> SV -> Prop := fun _ _ _ => False
  pl : Nat -> Nat -> SV -> Prop := fun _ _ _ => False
  pv : List (Nat × SV) := []
  pr : FuncId -> List SV -> List (Nat × List SV) -> SV -> Prop := fun _ _ _ _ => False
  rk : List (Nat × List Nat) := []
  px : FuncId -> List SV -> SV -> Prop := fun _ _ _ => False
  xk : List Nat := []
def TT.get (T : TT) (t : Nat) : Option TI := match Nat.blt t T.M with
  | true => T.tr.get t
  | false => none
def vq : Value -> Value -> Bool
  | .int K n, .int K' n' => decide (K = K') && decide (n = n')
  | .bool b, .bool b' => b == b'
  | .string s, .string s' => decide (s = s')
  | .slice none 0 0, .slice none 0 0 => true
  | .nilFunc, .nilFunc => true
  | .pointer none, .pointer none => true
  | .map none, .map none => true
  | _, _ => false
theorem Ql9 {a b : Value} (h : vq a b = true) : a = b := by
  unfold vq at h
  split at h <;> simp_all
def vqL : List Value -> List Value -> Bool
  | [], [] => true
  | a :: l, b :: l' => vq a b && vqL l l'
  | _, _ => false
theorem QfU : ∀ {l l' : List Value}, vqL l l' = true -> l = l'
  | [], [], _ => rfl
  | [], _ :: _, h => by simp [vqL] at h
  | _ :: _, [], h => by simp [vqL] at h
  | a :: l, b :: l', h => by
    simp only [vqL, Bool.and_eq_true] at h
    rw [Ql9 h.1, QfU h.2]
def QR : QS := ⟨fun _ => 0, fun _ => (0, 0)⟩
def okB : List SV -> Bool
  | [] => true
  | .a _ zs n :: l => Nat.beq zs.length n && okB l
  | _ :: l => okB l
theorem QcN : ∀ {l : List SV}, okB l = true -> YK l
  | [], _ => trivial
  | x :: l, h => by
    cases x
    case a K zs n => simp only [okB, Bool.and_eq_true] at h; exact ⟨Nat.eq_of_beq_eq_true h.1, QcN h.2⟩
    all_goals exact ⟨trivial, QcN (by simpa only [okB] using h)⟩
def QdU (P : Program) (t : Nat) : List (Nat × Nat) -> Nat -> Bool
  | [], _ => true
  | o :: l, k => Qfw P t k o.1 && QdU P t l (k + 1)
theorem Qbj {P : Program} {t : Nat} : ∀ {l : List (Nat × Nat)} {k : Nat}, QdU P t l k = true -> ∀ {j : Nat} {o : Nat × Nat}, l[j]? = some o -> Qfw P t (k + j) o.1 = true
  | [], _, _, j, o, h => by simp at h
  | a :: l, k, hb, j, o, h => by
    simp only [QdU, Bool.and_eq_true] at hb
    cases j with
    | zero => simp at h; subst h; exact hb.1
    | succ j => rw [show k + (j + 1) = k + 1 + j by omega]; exact Qbj hb.2 (by simpa using h)
def Ht (P : Program) (t : Nat) (i : TI) : Bool := match P.underlying t with
  | some (.struct fields) => match fields.toList.mapM (fun f => (P.info? f.type).map fun i => (f.offset, i.size)) with
    | some l => decide (l = i.o)
    | none => false
  | some (.array _ e) => match P.info? e with
    | some ie => Nat.beq ie.size i.q && i.o.isEmpty
    | none => false
  | _ => i.o.isEmpty && Nat.beq i.n 0
/-- What a type's entry says is so. -/
def tB (P : Program) (t : Nat) (i : TI) : Bool :=
  ZV P t i.s && (bif i.g then Qb3 P t i.s else Ed P t && Nat.beq i.s 1) && QdU P t i.o 0 && Ht P t i
    && (match i.k with | none => true | some K => match P.underlying t with | some (.int K') => decide (K = K') | _ => false)
    && (bif Nat.beq i.n 0 then true else match P.underlying t with | some (.array n e) => Nat.beq n i.n && Nat.beq e i.e && (bif i.u then !(P.eqGuardType P.depth t) else true) | _ => false)
    && (bif Nat.beq i.y 1 then match P.underlying t with | some .string => true | _ => false else bif Nat.beq i.y 3 then match P.underlying t with | some .bool => true | _ => false else true)
    && (bif Nat.beq i.y 2 then match P.underlying t with | some (.slice e) => Nat.beq e i.e | _ => false else true)
    && (match i.z with | none => true | some l => okB l && VU 0 l && (match (P.info? t).bind (·.zero) with | some Z => vqL Z.cells.toList (Qp QR l) | none => false))
def TT.ok (P : Program) (T : TT) : Bool := (List.range T.M).all fun t => match T.get t with
  | none => true
  | some i => tB P t i
theorem TT.at {P : Program} {T : TT} (h : T.ok P = true) {t : Nat} {i : TI} (hi : T.get t = some i) : tB P t i = true := by
  have ht : t < T.M := by
    unfold TT.get at hi
    split at hi
    . rename_i hb; exact QY hb
    . cases hi
  have := List.all_eq_true.1 h t (List.mem_range.2 ht)
  rw [hi] at this
  exact this
section
variable {P : Program} {T : TT} (hT : T.ok P = true) {t : Nat} {i : TI} (hi : T.get t = some i)
include hT hi
theorem TT.size : ZV P t i.s = true := by
  have := TT.at hT hi
  simp only [tB, Bool.and_eq_true] at this
  exact this.1.1.1.1.1.1.1.1
theorem TT.agg (hg : i.g = true) : Qb3 P t i.s = true := by
  have := TT.at hT hi
  simp only [tB, Bool.and_eq_true] at this
  have := this.1.1.1.1.1.1.1.2
  rwa [hg] at this
theorem TT.one (hg : i.g = false) : Ed P t = true := by
  have := TT.at hT hi
  simp only [tB, Bool.and_eq_true] at this
  have := this.1.1.1.1.1.1.1.2
  rw [hg] at this
  simp only [cond_false, Bool.and_eq_true] at this
  exact this.1
theorem TT.fld {k : Nat} {o : Nat × Nat} (hk : i.o[k]? = some o) : Qfw P t k o.1 = true := by
  have := TT.at hT hi
  simp only [tB, Bool.and_eq_true] at this
  have := Qbj this.1.1.1.1.1.1.2 hk
  rwa [Nat.zero_add] at this
theorem TT.places : Ht P t i = true := by
  have := TT.at hT hi
  simp only [tB, Bool.and_eq_true] at this
  exact this.1.1.1.1.1.2
theorem TT.int {K : IntKind} (hk : i.k = some K) : P.underlying t = some (.int K) := by
  have := TT.at hT hi
  simp only [tB, Bool.and_eq_true] at this
  have := this.1.1.1.1.2
  rw [hk] at this
  simp only at this
  split at this
  . rename_i K' hu; rw [hu, of_decide_eq_true this]
  . cases this
theorem TT.arr (hn : Nat.beq i.n 0 = false) : P.underlying t = some (.array i.n i.e) := by
  have := TT.at hT hi
  simp only [tB, Bool.and_eq_true] at this
  have := this.1.1.1.2
  rw [hn] at this
  simp only [cond_false] at this
  split at this
  . rename_i n e hu; simp only [Bool.and_eq_true] at this; rw [hu, Nat.eq_of_beq_eq_true this.1.1, Nat.eq_of_beq_eq_true this.1.2]
  . cases this
theorem TT.eqg (hn : Nat.beq i.n 0 = false) (hg : i.u = true) : P.eqGuardType P.depth t = false := by
  have := TT.at hT hi
  simp only [tB, Bool.and_eq_true] at this
  have := this.1.1.1.2
  rw [hn] at this
  simp only [cond_false] at this
  split at this
  . rename_i n e hu; simp only [Bool.and_eq_true] at this; have := this.2; rw [hg] at this; simpa using this
  . cases this
theorem TT.str (hy : Nat.beq i.y 1 = true) : P.underlying t = some .string := by
  have := TT.at hT hi
  simp only [tB, Bool.and_eq_true] at this
  have := this.1.1.2
  rw [hy] at this
  simp only [cond_true] at this
  split at this
  . assumption
  . cases this
theorem TT.bol (hy : Nat.beq i.y 3 = true) : P.underlying t = some .bool := by
  have := TT.at hT hi
  simp only [tB, Bool.and_eq_true] at this
  have := this.1.1.2
  have h3 := Nat.eq_of_beq_eq_true hy
  rw [h3] at this
  have e1 : Nat.beq 3 1 = false := rfl
  have e2 : Nat.beq 3 3 = true := rfl
  rw [e1, e2] at this
  simp only [cond_true, cond_false] at this
  split at this
  . assumption
  . cases this
theorem TT.slc (hy : Nat.beq i.y 2 = true) : P.underlying t = some (.slice i.e) := by
  have := TT.at hT hi
  simp only [tB, Bool.and_eq_true] at this
  have := this.1.2
  rw [hy] at this
  simp only [cond_true] at this
  split at this
  . rename_i e hu; rw [hu, Nat.eq_of_beq_eq_true this]
  . cases this
theorem TT.und : ∃ d, P.underlying t = some d := by
  cases hg : i.g with
  | true => obtain ⟨d, hd, _⟩ := Hw (TT.agg hT hi hg); exact ⟨d, hd⟩
  | false => obtain ⟨d, hd, _⟩ := Hv (TT.one hT hi hg); exact ⟨d, hd⟩
theorem TT.zero {l : List SV} (hz : i.z = some l) : YK l /\ VU 0 l = true /\ ∃ Z, (P.info? t).bind (·.zero) = some Z /\ ∀ ρ, Z.cells.toList = Qp ρ l := by
  have := TT.at hT hi
  simp only [tB, Bool.and_eq_true] at this
  have := this.2
  rw [hz] at this
  simp only [Bool.and_eq_true] at this
  obtain ⟨⟨h1, h2⟩, h3⟩ := this
  refine ⟨QcN h1, h2, ?_⟩
  split at h3
  . rename_i Z hZ
    exact ⟨Z, hZ, fun ρ => by rw [QfU h3]; exact Xv (fun k hk => absurd hk (Nat.not_lt_zero k)) l h2⟩
  . cases h3
end
/-- A range of a kind of numbers. -/
def rng (K : IntKind) (n : Int) : Prop := match K with
  | .i64 => -9223372036854775808 <= n /\ n <= 9223372036854775807
  | .u64 => 0 <= n /\ n < 18446744073709551616
  | .u32 => 0 <= n /\ n < 4294967296
  | .u8 => 0 <= n /\ n < 256
  | K => K.wrap n = n
theorem Jh {K : IntKind} {n : Int} (h : rng K n) : K.wrap n = n := by
  cases K <;> simp only [rng] at h <;> first
    | exact h
    | exact QD h
    | exact Ka h
    | exact QeH h
    | (rw [IntKind.wrap_u32']; omega)
def kn : IntKind -> Nat
  | .i8 => 0 | .i16 => 1 | .i32 => 2 | .i64 => 3 | .u8 => 4 | .u16 => 5 | .u32 => 6 | .u64 => 7
def kq (K K' : IntKind) : Bool := Nat.beq (kn K) (kn K')
theorem Hb {K K' : IntKind} (h : kq K K' = true) : K = K' := by
  have := Nat.eq_of_beq_eq_true h
  cases K <;> cases K' <;> simp_all [kn]
def cst : Value -> SV
  | .int K n => .i K n
  | .bool b => .l b
  | .string s => .s s
  | .slice a l c => .o a l c
  | v => .v v
theorem QjO (ρ : QS) (v : Value) : (cst v).den ρ = v := by
  cases v <;> simp only [cst, SV.den]
def Uf (f : SF) : Operand -> Option SV
  | .tmp t => lk f t
  | .const v => some (cst v)
  | .global g => some (.v (.pointer (some ⟨g, 0, none⟩)))
  | .func F => some (.f F [])
theorem QG {ρ : QS} {f : SF} {x : Operand} {v : SV} (h : Uf f x = some v) : ev (QI ρ f) x = some (v.den ρ) := by
  cases x with
  | tmp t => exact Yw h
  | const u => cases h; rw [QjO]; rfl
  | global g => cases h; simp only [SV.den]; rfl
  | func g => cases h; simp only [SV.den, QO]; rfl
def DQ (f : SF) : List Operand -> Option (List SV)
  | [] => some []
  | x :: l => match Uf f x with
    | none => none
    | some v => match DQ f l with
      | none => none
      | some vs => some (v :: vs)
theorem VI {ρ : QS} {f : SF} : ∀ {xs : List Operand} {vs : List SV}, DQ f xs = some vs -> evl (QI ρ f) xs = some (QO ρ vs)
  | [], vs, h => by cases h; simp only [QO]; rfl
  | x :: l, vs, h => by
    unfold DQ at h
    split at h
    . cases h
    . rename_i v hv
      split at h
      . cases h
      . rename_i us hu
        cases h
        unfold evl
        rw [QG hv, VI hu]
        simp only [QO]
def nth : List SV -> Nat -> Option SV
  | [], _ => none
  | x :: l, n => match Nat.beq n 0 with
    | true => some x
    | false => nth l (Nat.sub n 1)
theorem QcP : ∀ {l : List SV} {n : Nat} {x : SV}, nth l n = some x -> l[n]? = some x
  | [], _, _, h => by cases h
  | y :: l, n, x, h => by
    unfold nth at h
    cases hn : Nat.beq n 0 with
    | true => rw [hn] at h; cases h; rw [Nat.eq_of_beq_eq_true hn]; rfl
    | false =>
      rw [hn] at h
      have h0 := Nat.ne_of_beq_eq_false hn
      obtain ⟨k, rfl⟩ : ∃ k, n = k + 1 := ⟨n - 1, by omega⟩
      have : Nat.sub (k + 1) 1 = k := Nat.add_sub_cancel k 1
      rw [this] at h
      simpa using QcP h
def Qg8 : List (Nat × Nat) -> Nat -> Option (Nat × Nat)
  | [], _ => none
  | x :: l, n => match Nat.beq n 0 with
    | true => some x
    | false => Qg8 l (Nat.sub n 1)
theorem Dx : ∀ {l : List (Nat × Nat)} {n : Nat} {x : Nat × Nat}, Qg8 l n = some x -> l[n]? = some x
  | [], _, _, h => by cases h
  | y :: l, n, x, h => by
    unfold Qg8 at h
    cases hn : Nat.beq n 0 with
    | true => rw [hn] at h; cases h; rw [Nat.eq_of_beq_eq_true hn]; rfl
    | false =>
      rw [hn] at h
      have h0 := Nat.ne_of_beq_eq_false hn
      obtain ⟨k, rfl⟩ : ∃ k, n = k + 1 := ⟨n - 1, by omega⟩
      have : Nat.sub (k + 1) 1 = k := Nat.add_sub_cancel k 1
      rw [this] at h
      simpa using Dx h
/-- A number shifted. -/
def shc : IntKind -> Int -> Prop
  | .u64, n => 0 <= n /\ n <= 64
  | .i64, n => 0 <= n /\ n <= 64
  | .u32, n => 0 <= n /\ n <= 32
  | .u8, n => 0 <= n /\ n <= 8
  | K, n => 0 <= n /\ n <= K.bits
theorem Dd {K : IntKind} {n : Int} (h : shc K n) : 0 <= n /\ n <= K.bits := by
  cases K <;> exact h
def shf (op : BinOp) (K : IntKind) (m n : Int) (acc : List Prop) : Option (SV × List Prop) := match op with
  | .shl => some (.i K (K.wrap (m * 2 ^ n.toNat)), shc K n :: acc)
  | .shr => some (.i K (m / 2 ^ n.toNat), shc K n :: acc)
  | _ => none
/-- Two numbers. -/
def QlU (md : Bool) (op : BinOp) (K : IntKind) (m n : Int) (acc : List Prop) : Option (SV × List Prop) := match op with
  | .add => match md with
    | true => some (.i K (K.wrap (m + n)), acc)
    | false => some (.i K (m + n), rng K (m + n) :: acc)
  | .sub => match md with
    | true => some (.i K (K.wrap (m - n)), acc)
    | false => some (.i K (m - n), rng K (m - n) :: acc)
  | .mul => match md with
    | true => some (.i K (K.wrap (m * n)), acc)
    | false => some (.i K (m * n), rng K (m * n) :: acc)
  | .quo => some (.i K (m / n), (0 <= m /\ 0 < n /\ rng K (m / n)) :: acc)
  | .rem => some (.i K (m % n), (0 <= m /\ 0 < n) :: acc)
  | .and => some (.i K (bits .and K m n), acc)
  | .or => some (.i K (bits .or K m n), acc)
  | .xor => some (.i K (bits .xor K m n), acc)
  | .eql => some (.c (m = n) inferInstance, acc)
  | .neq => some (.c (¬ m = n) inferInstance, acc)
  | .lss => some (.c (m < n) inferInstance, acc)
  | .leq => some (.c (m <= n) inferInstance, acc)
  | .gtr => some (.c (n < m) inferInstance, acc)
  | .geq => some (.c (n <= m) inferInstance, acc)
  | .shl => shf .shl K m n acc
  | .shr => shf .shr K m n acc
  | _ => none
def QlS (op : BinOp) (m n : ByteArray) (acc : List Prop) : Option (SV × List Prop) := match op with
  | .eql => some (.c (m = n) inferInstance, acc)
  | .neq => some (.c (¬ m = n) inferInstance, acc)
  | .lss => some (.c (KJ m n = true) inferInstance, acc)
  | .geq => some (.c (¬ KJ m n = true) inferInstance, acc)
  | .gtr => some (.c (¬ (KJ m n = true \/ m = n)) inferInstance, acc)
  | .add => some (.s (m ++ n), (m.size + n.size <= 9223372036854775807) :: acc)
  | _ => none
/-- Two arrays of numbers. -/
def QlT (op : BinOp) (xs ys : List Int) (n : Nat) (acc : List Prop) : Option (SV × List Prop) := match op with
  | .eql => some (.c (xs = ys) inferInstance, (xs.length = n /\ ys.length = n) :: acc)
  | .neq => some (.c (¬ xs = ys) inferInstance, (xs.length = n /\ ys.length = n) :: acc)
  | _ => none
/-- Two tests. -/
def QmO (op : BinOp) (a b : Bool) (acc : List Prop) : Option (SV × List Prop) := match op with
  | .eql => match a with
    | true => some (.l b, acc)
    | false => match b with
      | true => some (.l false, acc)
      | false => some (.l true, acc)
  | .neq => match a with
    | false => some (.l b, acc)
    | true => match b with
      | true => some (.l false, acc)
      | false => some (.l true, acc)
  | _ => none
/-- The value behind a test, where the test is known to be as it must. -/
def unW (p : Prop) (acc : List Prop) : SV -> SV × List Prop
  | .w q _ x => (x, (p -> q) :: acc)
  | x => (x, acc)
def QgT (p : Prop) (d : Decidable p) (x y : SV) (acc : List Prop) : Option (SV × List Prop) := match x, y with
  | .c q e, .l false => some (.c (p /\ q) (@instDecidableAnd p q d e), acc)
  | .l true, .c q e => some (.c (p \/ q) (@instDecidableOr p q d e), acc)
  | .l true, .l false => some (.c p d, acc)
  | .i K m, .i K' n => match kq K K' with
    | true => some (.i K (@ite Int p d m n), acc)
    | false => none
  | .s m, .s n => some (.s (@ite ByteArray p d m n), acc)
  | _, _ => none
/-- What an operation yields that touches no memory. -/
def Qa0 (T : TT) (md : Bool) (ev : Operand -> Option SV) (acc : List Prop) : Op -> Option (SV × List Prop)
  | .move x => match ev x with
    | some v => some (v, acc)
    | none => none
  | .assign x => match ev x with
    | some v => some (v, acc)
    | none => none
  | .pick c x y => match ev c with
    | some (.l true) => match ev x with
      | some v => some (v, acc)
      | none => none
    | some (.l false) => match ev y with
      | some v => some (v, acc)
      | none => none
    | some (.c p d) => match ev x with
      | some vx => match ev y with
        | some vy => match unW p acc vx with
          | (vx, acc) => match unW (¬ p) acc vy with
            | (vy, acc) => QgT p d vx vy acc
        | none => none
      | none => none
    | _ => none
  | .binOp op t x y _ => match ev x with
    | some (.i K m) => match ev y with
      | some (.i K' n) => match kq K' K with
        | true => QlU md op K m n acc
        | false => shf op K m n acc
      | _ => none
    | some (.s m) => match ev y with
      | some (.s n) => QlS op m n acc
      | _ => none
    | some (.a K xs _) => match ev y with
      | some (.a K' ys _) => match kq K' K with
        | true => match T.get t with
          | some i => match i.u with
            | true => match Nat.beq i.n 0 with
              | true => none
              | false => match T.get i.e with
                | some j => match Nat.beq j.s 1 with
                  | true => match j.k with
                    | some _ => QlT op xs ys i.n acc
                    | none => none
                  | false => none
                | none => none
            | false => none
          | none => none
        | false => none
      | _ => none
    | some (.l a) => match ev y with
      | some (.l b) => match T.get t with
        | some i => match Nat.beq i.y 3 with
          | true => QmO op a b acc
          | false => none
        | none => none
      | _ => none
    | _ => none
  | .unOp .not _ x => match ev x with
    | some (.l true) => some (.l false, acc)
    | some (.l false) => some (.l true, acc)
    | some (.c p d) => some (.c (¬ p) (@instDecidableNot p d), acc)
    | _ => none
  | .convert s t x => match T.get s with
    | some _ => match T.get t with
      | some i => match i.k with
        | some K' => match ev x with
          | some (.i K m) => match md with
            | true => some (.i K' (K'.wrap m), acc)
            | false => some (.i K' m, rng K' m :: acc)
          | _ => none
        | none => none
      | none => none
    | none => none
  | .extract x i => match ev x with
    | some (.t l) => match nth l i with
      | some v => some (v, acc)
      | none => none
    | _ => none
  | .nilCheck x => match ev x with
    | some (.p k o) => some (.p k o, acc)
    | some (.q k o) => some (.q k o, acc)
    | some (.x k o s n) => some (.x k o s n, acc)
    | _ => none
  | .fieldAddr t x k => match T.get t with
    | some i => match Qg8 i.o k with
      | some (off, _) => match ev x with
        | some (.p b o) => some (.p b (Nat.add o off), acc)
        | some (.q b o) => some (.q b (Nat.add o off), acc)
        | _ => none
      | none => none
    | none => none
  | .call { callee := .builtin .len, args := ⟨[x]⟩, argTypes := ⟨[t]⟩ } => match T.get t with
    | some i => match ev x with
      | some (.s b) => match Nat.beq i.y 1 with
        | true => some (.i .i64 (b.size : Int), acc)
        | false => none
      | some (.o _ l _) => match Nat.beq i.y 2 with
        | true => some (.i .i64 (l : Int), acc)
        | false => none
      | some (.y _ _ l _) => match Nat.beq i.y 2 with
        | true => some (.i .i64 (l : Int), acc)
        | false => none
      | some (.z _ _ l _) => match Nat.beq i.y 2 with
        | true => some (.i .i64 (l : Int), acc)
        | false => none
      | _ => none
    | none => none
  | .call { callee := .builtin .min, args := ⟨[x, y]⟩, argTypes := _ } => match ev x with
    | some (.i K m) => match ev y with
      | some (.i K' n) => match kq K' K with
        | true => some (.i K (if n < m then n else m), acc)
        | false => none
      | _ => none
    | _ => none
  | .call { callee := .builtin .max, args := ⟨[x, y]⟩, argTypes := _ } => match ev x with
    | some (.i K m) => match ev y with
      | some (.i K' n) => match kq K' K with
        | true => some (.i K (if m < n then n else m), acc)
        | false => none
      | _ => none
    | _ => none
  | _ => none
end Go.Proofs.YtbiboamaigedjaaGreatDoor
namespace Go.Proofs.YtbiboamaigedjaaGreatDoor
open Go.RowKit
set_option linter.unusedVariables false
set_option linter.constructorNameAsVariable false
set_option linter.unusedSimpArgs false

def XD : List Prop -> Prop
  | [] => True
  | p :: l => p /\ XD l
section
variable {P : Program} {ops : Array Oper} {o : Oper} {N : Nat} {w : World} {ρ : QS} {f : SF} {T : TT} {md : Bool} {acc acc' : List Prop}
/-- A value that an operation yields. -/
abbrev Yl (P : Program) (ops : Array Oper) (o : Oper) (N : Nat) (ρ : QS) (fl : Fl) (w : World) (v : SV) : Prop := DV P ops o N fl w (v.den ρ)
theorem DV.eq {fl : Fl} {v v' : Value} (h : DV P ops o N fl w v) (e : v = v') : DV P ops o N fl w v' := e ▸ h
theorem Qnb {t t' : TypeId} {x y : Operand} {K K2 : IntKind} {m n : Int} {f : Fl} (ho : o.op = .binOp .shr t x y t') (hx : ev f x = some (.int K m)) (hy : ev f y = some (.int K2 n)) (hn : 0 <= n) (hn2 : n <= K.bits) (hw : Qu ops o f = some true) : DV P ops o N f w (.int K (m / 2 ^ n.toNat)) := fun a ha =>
  Qt.shr (Qj ha hw) ho (ha.ev hx) (ha.ev hy) hn hn2 rfl ⟨rfl, rfl⟩
theorem Qnc {t t' : TypeId} {x y : Operand} {K K2 : IntKind} {m n : Int} {f : Fl} (ho : o.op = .binOp .shl t x y t') (hx : ev f x = some (.int K m)) (hy : ev f y = some (.int K2 n)) (hn : 0 <= n) (hn2 : n <= K.bits) (hw : Qu ops o f = some true) : DV P ops o N f w (.int K (K.wrap (m * 2 ^ n.toNat))) := fun a ha =>
  Qt.shl (Qj ha hw) ho (ha.ev hx) (ha.ev hy) hn hn2 rfl ⟨rfl, rfl⟩
theorem Qcr {fl : Fl} (hw : Qu ops o fl = some true) {op : BinOp} {t t' : TypeId} {x y : Operand} {K K2 : IntKind} {m n : Int} (ho : o.op = .binOp op t x y t') (hx : ev fl x = some (.int K m)) (hy : ev fl y = some (.int K2 n)) {v : SV} (h : shf op K m n acc = some (v, acc')) (hc : XD acc') : XD acc /\ Yl P ops o N ρ fl w v := by
  cases op <;> simp only [shf] at h
  case shl => simp only [Option.some.injEq, Prod.mk.injEq] at h; obtain ⟨rfl, rfl⟩ := h; exact ⟨hc.2, (Qnc ho hx hy (Dd hc.1).1 (Dd hc.1).2 hw).eq (by simp only [SV.den])⟩
  case shr => simp only [Option.some.injEq, Prod.mk.injEq] at h; obtain ⟨rfl, rfl⟩ := h; exact ⟨hc.2, (Qnb ho hx hy (Dd hc.1).1 (Dd hc.1).2 hw).eq (by simp only [SV.den])⟩
  all_goals cases h
theorem QjZ {fl : Fl} (hw : Qu ops o fl = some true) {op : BinOp} {t t' : TypeId} {x y : Operand} {K : IntKind} {m n : Int} (ho : o.op = .binOp op t x y t') (hx : ev fl x = some (.int K m)) (hy : ev fl y = some (.int K n)) {v : SV} (h : QlU md op K m n acc = some (v, acc')) (hc : XD acc') : XD acc /\ Yl P ops o N ρ fl w v := by
  cases op <;> simp only [QlU] at h
  case add =>
    cases md <;> simp only [Option.some.injEq, Prod.mk.injEq] at h <;> obtain ⟨rfl, rfl⟩ := h
    . exact ⟨hc.2, (QW ho hx hy (Jh hc.1) hw).eq (by simp only [SV.den])⟩
    . exact ⟨hc, (QW ho hx hy rfl hw).eq (by simp only [SV.den])⟩
  case sub =>
    cases md <;> simp only [Option.some.injEq, Prod.mk.injEq] at h <;> obtain ⟨rfl, rfl⟩ := h
    . exact ⟨hc.2, (X2 ho hx hy (Jh hc.1) hw).eq (by simp only [SV.den])⟩
    . exact ⟨hc, (X2 ho hx hy rfl hw).eq (by simp only [SV.den])⟩
  case mul =>
    cases md <;> simp only [Option.some.injEq, Prod.mk.injEq] at h <;> obtain ⟨rfl, rfl⟩ := h
    . exact ⟨hc.2, (Jy ho hx hy (Jh hc.1) hw).eq (by simp only [SV.den])⟩
    . exact ⟨hc, (Jy ho hx hy rfl hw).eq (by simp only [SV.den])⟩
  case quo =>
    simp only [Option.some.injEq, Prod.mk.injEq] at h
    obtain ⟨rfl, rfl⟩ := h
    obtain ⟨⟨h1, h2, h3⟩, h4⟩ := hc
    exact ⟨h4, (Kx (r := m / n) ho hx hy (by omega) (by rw [Int.tdiv_eq_ediv_of_nonneg h1]; exact Jh h3) hw).eq (by simp only [SV.den])⟩
  case rem =>
    simp only [Option.some.injEq, Prod.mk.injEq] at h
    obtain ⟨rfl, rfl⟩ := h
    obtain ⟨⟨h1, h2⟩, h4⟩ := hc
    exact ⟨h4, (QlC ho hx hy (by omega) (Int.tmod_eq_emod_of_nonneg h1) hw).eq (by simp only [SV.den])⟩
  case and => simp only [Option.some.injEq, Prod.mk.injEq] at h; obtain ⟨rfl, rfl⟩ := h; exact ⟨hc, (ZG ho hx hy rfl hw).eq (by simp only [SV.den])⟩
  case or => simp only [Option.some.injEq, Prod.mk.injEq] at h; obtain ⟨rfl, rfl⟩ := h; exact ⟨hc, (DW ho hx hy rfl hw).eq (by simp only [SV.den])⟩
  case xor => simp only [Option.some.injEq, Prod.mk.injEq] at h; obtain ⟨rfl, rfl⟩ := h; exact ⟨hc, (VJ ho hx hy rfl hw).eq (by simp only [SV.den])⟩
  case eql => simp only [Option.some.injEq, Prod.mk.injEq] at h; obtain ⟨rfl, rfl⟩ := h; exact ⟨hc, (Qda ho hx hy hw).eq (by simp only [SV.den])⟩
  case neq => simp only [Option.some.injEq, Prod.mk.injEq] at h; obtain ⟨rfl, rfl⟩ := h; exact ⟨hc, (QlD ho hx hy hw).eq (by simp only [SV.den]; simp)⟩
  case lss => simp only [Option.some.injEq, Prod.mk.injEq] at h; obtain ⟨rfl, rfl⟩ := h; exact ⟨hc, (ZF ho hx hy hw).eq (by simp only [SV.den])⟩
  case leq => simp only [Option.some.injEq, Prod.mk.injEq] at h; obtain ⟨rfl, rfl⟩ := h; exact ⟨hc, (QlH ho hx hy hw).eq (by simp only [SV.den])⟩
  case gtr => simp only [Option.some.injEq, Prod.mk.injEq] at h; obtain ⟨rfl, rfl⟩ := h; exact ⟨hc, (QlI ho hx hy hw).eq (by simp only [SV.den])⟩
  case geq => simp only [Option.some.injEq, Prod.mk.injEq] at h; obtain ⟨rfl, rfl⟩ := h; exact ⟨hc, (FP ho hx hy hw).eq (by simp only [SV.den])⟩
  case shl => exact Qcr hw ho hx hy h hc
  case shr => exact Qcr hw ho hx hy h hc
  all_goals cases h
theorem QjX {fl : Fl} (hw : Qu ops o fl = some true) {op : BinOp} {t t' : TypeId} {x y : Operand} {m n : ByteArray} (ho : o.op = .binOp op t x y t') (hx : ev fl x = some (.string m)) (hy : ev fl y = some (.string n)) {v : SV} (h : QlS op m n acc = some (v, acc')) (hc : XD acc') : XD acc /\ Yl P ops o N ρ fl w v := by
  cases op <;> simp only [QlS] at h
  case eql => simp only [Option.some.injEq, Prod.mk.injEq] at h; obtain ⟨rfl, rfl⟩ := h; exact ⟨hc, (QjL ho hx hy hw).eq (by simp only [SV.den])⟩
  case neq => simp only [Option.some.injEq, Prod.mk.injEq] at h; obtain ⟨rfl, rfl⟩ := h; exact ⟨hc, (QjD ho hx hy hw).eq (by simp only [SV.den]; simp)⟩
  case lss => simp only [Option.some.injEq, Prod.mk.injEq] at h; obtain ⟨rfl, rfl⟩ := h; exact ⟨hc, (QjG ho hx hy hw).eq (by simp only [SV.den]; simp)⟩
  case geq => simp only [Option.some.injEq, Prod.mk.injEq] at h; obtain ⟨rfl, rfl⟩ := h; exact ⟨hc, (QjJ ho hx hy hw).eq (by simp only [SV.den]; simp)⟩
  case gtr => simp only [Option.some.injEq, Prod.mk.injEq] at h; obtain ⟨rfl, rfl⟩ := h; exact ⟨hc, (QjI ho hx hy hw).eq (by simp only [SV.den]; simp)⟩
  case add => simp only [Option.some.injEq, Prod.mk.injEq] at h; obtain ⟨rfl, rfl⟩ := h; exact ⟨hc.2, (QjN ho hx hy hc.1 hw).eq (by simp only [SV.den])⟩
  all_goals cases h
theorem QjY {fl : Fl} (hw : Qu ops o fl = some true) {op : BinOp} {t t' e : TypeId} {x y : Operand} {K K' : IntKind} {xs ys : List Int} {n : Nat} (ho : o.op = .binOp op t x y t') (hu : P.underlying t = some (.array n e)) (he : P.underlying e = some (.int K')) (hs : ZV P e 1 = true) (hg : P.eqGuardType P.depth t = false) (hx : ev fl x = some (XN K xs)) (hy : ev fl y = some (XN K ys)) {v : SV} (h : QlT op xs ys n acc = some (v, acc')) (hc : XD acc') : XD acc /\ Yl P ops o N ρ fl w v := by
  cases op <;> simp only [QlT] at h
  case eql => simp only [Option.some.injEq, Prod.mk.injEq] at h; obtain ⟨rfl, rfl⟩ := h; exact ⟨hc.2, (QlK ho hu he hs hg hx hy hc.1.1 hc.1.2 hw).eq (by simp only [SV.den])⟩
  case neq => simp only [Option.some.injEq, Prod.mk.injEq] at h; obtain ⟨rfl, rfl⟩ := h; exact ⟨hc.2, (QjF ho hu he hs hg hx hy hc.1.1 hc.1.2 hw).eq (by simp only [SV.den]; simp)⟩
  all_goals cases h
theorem Qf1 {p : Prop} {x y : SV} (h : unW p acc x = (y, acc')) (hc : XD acc') : XD acc /\ (p -> x.den ρ = y.den ρ) := by
  unfold unW at h
  split at h
  . rename_i q d z
    simp only [Prod.mk.injEq] at h
    obtain ⟨rfl, rfl⟩ := h
    refine ⟨hc.2, fun hp => ?_⟩
    have hq := hc.1 hp
    cases d with
    | isTrue _ => simp only [SV.den]
    | isFalse hn => exact absurd hq hn
  . simp only [Prod.mk.injEq] at h
    obtain ⟨rfl, rfl⟩ := h
    exact ⟨hc, fun _ => rfl⟩
theorem QgS {p : Prop} {d : Decidable p} {x y v : SV} (h : QgT p d x y acc = some (v, acc')) : acc' = acc /\ v.den ρ = if p then x.den ρ else y.den ρ := by
  unfold QgT at h
  split at h
  . rename_i q e
    simp only [Option.some.injEq, Prod.mk.injEq] at h
    obtain ⟨rfl, rfl⟩ := h
    refine ⟨rfl, ?_⟩
    by_cases hp : p <;> by_cases hq : q <;> simp [SV.den, hp, hq]
  . rename_i q e
    simp only [Option.some.injEq, Prod.mk.injEq] at h
    obtain ⟨rfl, rfl⟩ := h
    refine ⟨rfl, ?_⟩
    by_cases hp : p <;> by_cases hq : q <;> simp [SV.den, hp, hq]
  . simp only [Option.some.injEq, Prod.mk.injEq] at h
    obtain ⟨rfl, rfl⟩ := h
    refine ⟨rfl, ?_⟩
    by_cases hp : p <;> simp [SV.den, hp]
  . rename_i K m K' n
    split at h
    . rename_i hk
      simp only [Option.some.injEq, Prod.mk.injEq] at h
      obtain ⟨rfl, rfl⟩ := h
      refine ⟨rfl, ?_⟩
      rw [<- Hb hk]
      by_cases hp : p <;> simp [SV.den, hp]
    . cases h
  . simp only [Option.some.injEq, Prod.mk.injEq] at h
    obtain ⟨rfl, rfl⟩ := h
    refine ⟨rfl, ?_⟩
    by_cases hp : p <;> simp [SV.den, hp]
  . cases h
theorem Fh (hT : T.ok P = true) {fl : Fl} {ev' : Operand -> Option SV} (hev : ∀ {x v}, ev' x = some v -> ev fl x = some (v.den ρ)) (hw : Qu ops o fl = some true) {v : SV} (h : Qa0 T md ev' acc o.op = some (v, acc')) (hc : XD acc') : XD acc /\ Yl P ops o N ρ fl w v := by
  generalize hq : o.op = q at h
  unfold Qa0 at h
  split at h
  . -- move
    split at h
    . rename_i u hu
      simp only [Option.some.injEq, Prod.mk.injEq] at h
      obtain ⟨rfl, rfl⟩ := h
      exact ⟨hc, Qe hq (hev hu) hw⟩
    . cases h
  . split at h
    . rename_i u hu
      simp only [Option.some.injEq, Prod.mk.injEq] at h
      obtain ⟨rfl, rfl⟩ := h
      exact ⟨hc, Qi hq (hev hu) hw⟩
    . cases h
  . -- pick
    rename_i c x y
    split at h
    . rename_i hcc
      split at h
      . rename_i u hu
        simp only [Option.some.injEq, Prod.mk.injEq] at h
        obtain ⟨rfl, rfl⟩ := h
        have h1 := hev hcc
        simp only [SV.den] at h1
        exact ⟨hc, DU hq h1 (hev hu) hw⟩
      . cases h
    . rename_i hcc
      split at h
      . rename_i u hu
        simp only [Option.some.injEq, Prod.mk.injEq] at h
        obtain ⟨rfl, rfl⟩ := h
        have h1 := hev hcc
        simp only [SV.den] at h1
        exact ⟨hc, DU hq h1 (hev hu) hw⟩
      . cases h
    . rename_i p d hcc
      have h1 := hev hcc
      simp only [SV.den] at h1
      split at h
      . rename_i vx hx
        split at h
        . rename_i vy hy
          split at h
          rename_i ux a1 e1
          split at h
          rename_i uy a2 e2
          obtain ⟨rfl, hp⟩ := QgS (ρ := ρ) h
          obtain ⟨hc1, g2⟩ := Qf1 (ρ := ρ) e2 hc
          obtain ⟨hc0, g1⟩ := Qf1 (ρ := ρ) e1 hc1
          refine ⟨hc0, DU hq h1 ?_ hw⟩
          show _ = some (v.den ρ)
          rw [hp]
          by_cases hp' : p
          . simp only [hp', decide_true, cond_true, if_true]; rw [hev hx, g1 hp']
          . simp only [hp', decide_false, cond_false, if_false]; rw [hev hy, g2 hp']
        . cases h
      . cases h
    . cases h
  . -- binOp
    rename_i op t x y t'
    split at h
    . rename_i K m hx
      have h1 := hev hx
      simp only [SV.den] at h1
      split at h
      . rename_i K' n hy
        have h2 := hev hy
        simp only [SV.den] at h2
        split at h
        . rename_i hk
          rw [Hb hk] at h2
          exact QjZ hw hq h1 h2 h hc
        . exact Qcr hw hq h1 h2 h hc
      . cases h
    . rename_i m hx
      have h1 := hev hx
      simp only [SV.den] at h1
      split at h
      . rename_i n hy
        have h2 := hev hy
        simp only [SV.den] at h2
        exact QjX hw hq h1 h2 h hc
      . cases h
    . rename_i K xs n hx
      have h1 := hev hx
      simp only [SV.den] at h1
      split at h
      . rename_i K' ys n' hy
        have h2 := hev hy
        simp only [SV.den] at h2
        split at h
        . rename_i hk
          rw [Hb hk] at h2
          split at h
          . rename_i i hi
            split at h
            . rename_i hu
              split at h
              . cases h
              . rename_i hn
                split at h
                . rename_i j hj
                  split at h
                  . rename_i hs
                    split at h
                    . rename_i Kj hkj
                      have hsz := TT.size hT hj
                      rw [Nat.eq_of_beq_eq_true hs] at hsz
                      exact QjY hw hq (TT.arr hT hi hn) (TT.int hT hj hkj) hsz (TT.eqg hT hi hn hu) h1 h2 h hc
                    . cases h
                  . cases h
                . cases h
            . cases h
          . cases h
        . cases h
      . cases h
    . rename_i a hx
      have h1 := hev hx
      simp only [SV.den] at h1
      split at h
      . rename_i b hy
        have h2 := hev hy
        simp only [SV.den] at h2
        split at h
        . rename_i i hi
          split at h
          . rename_i hyy
            have hu := TT.bol hT hi hyy
            unfold QmO at h
            split at h
            . cases a <;> cases b <;> simp only [Option.some.injEq, Prod.mk.injEq] at h <;> obtain ⟨rfl, rfl⟩ := h <;> exact ⟨hc, (QlJ hq hu h1 h2 hw).eq (by simp only [SV.den]; rfl)⟩
            . cases a <;> cases b <;> simp only [Option.some.injEq, Prod.mk.injEq] at h <;> obtain ⟨rfl, rfl⟩ := h <;> exact ⟨hc, (QjE hq hu h1 h2 hw).eq (by simp only [SV.den]; rfl)⟩
            . cases h
          . cases h
        . cases h
      . cases h
    . cases h
  . -- not
    rename_i t x
    split at h
    . rename_i hx
      simp only [Option.some.injEq, Prod.mk.injEq] at h
      obtain ⟨rfl, rfl⟩ := h
      have h1 := hev hx
      simp only [SV.den] at h1
      exact ⟨hc, (Qc8 hq h1 hw).eq (by simp only [SV.den]; rfl)⟩
    . rename_i hx
      simp only [Option.some.injEq, Prod.mk.injEq] at h
      obtain ⟨rfl, rfl⟩ := h
      have h1 := hev hx
      simp only [SV.den] at h1
      exact ⟨hc, (Qc8 hq h1 hw).eq (by simp only [SV.den]; rfl)⟩
    . rename_i p d hx
      simp only [Option.some.injEq, Prod.mk.injEq] at h
      obtain ⟨rfl, rfl⟩ := h
      have h1 := hev hx
      simp only [SV.den] at h1
      exact ⟨hc, (Qc8 hq h1 hw).eq (by simp only [SV.den]; by_cases hp : p <;> simp [hp])⟩
    . cases h
  . -- convert
    rename_i s t x
    split at h
    . rename_i i' hs
      split at h
      . rename_i i ht
        split at h
        . rename_i K' hk
          split at h
          . rename_i K m hx
            have h1 := hev hx
            simp only [SV.den] at h1
            obtain ⟨ds, hds⟩ := TT.und hT hs
            split at h
            . simp only [Option.some.injEq, Prod.mk.injEq] at h
              obtain ⟨rfl, rfl⟩ := h
              exact ⟨hc, (XZ hq hds (TT.int hT ht hk) h1 rfl hw).eq (by simp only [SV.den])⟩
            . simp only [Option.some.injEq, Prod.mk.injEq] at h
              obtain ⟨rfl, rfl⟩ := h
              exact ⟨hc.2, (XZ hq hds (TT.int hT ht hk) h1 (Jh hc.1) hw).eq (by simp only [SV.den])⟩
          . cases h
        . cases h
      . cases h
    . cases h
  . -- extract
    rename_i x i
    split at h
    . rename_i l hx
      split at h
      . rename_i u hu
        simp only [Option.some.injEq, Prod.mk.injEq] at h
        obtain ⟨rfl, rfl⟩ := h
        have h1 := hev hx
        simp only [SV.den] at h1
        exact ⟨hc, Qc9 hq h1 (by simpa using QbL (QcP hu)) hw⟩
      . cases h
    . cases h
  . -- nilCheck
    rename_i x
    split at h
    . rename_i k o' hx
      simp only [Option.some.injEq, Prod.mk.injEq] at h
      obtain ⟨rfl, rfl⟩ := h
      have h1 := hev hx
      simp only [SV.den] at h1
      exact ⟨hc, (Jx hq h1 hw).eq (by simp only [SV.den])⟩
    . rename_i k o' hx
      simp only [Option.some.injEq, Prod.mk.injEq] at h
      obtain ⟨rfl, rfl⟩ := h
      have h1 := hev hx
      simp only [SV.den] at h1
      exact ⟨hc, (Jx hq h1 hw).eq (by simp only [SV.den])⟩
    . rename_i k o' s' n' hx
      simp only [Option.some.injEq, Prod.mk.injEq] at h
      obtain ⟨rfl, rfl⟩ := h
      have h1 := hev hx
      simp only [SV.den] at h1
      exact ⟨hc, (Jx hq h1 hw).eq (by simp only [SV.den])⟩
    . cases h
  . -- fieldAddr
    rename_i t x k
    split at h
    . rename_i i ht
      split at h
      . rename_i off sz hoff
        have hf := TT.fld hT ht (Dx hoff)
        split at h
        . rename_i b o' hx
          simp only [Option.some.injEq, Prod.mk.injEq] at h
          obtain ⟨rfl, rfl⟩ := h
          have h1 := hev hx
          simp only [SV.den] at h1
          exact ⟨hc, (QhS hq hf h1 rfl hw).eq (by simp only [SV.den]; rfl)⟩
        . rename_i b o' hx
          simp only [Option.some.injEq, Prod.mk.injEq] at h
          obtain ⟨rfl, rfl⟩ := h
          have h1 := hev hx
          simp only [SV.den] at h1
          exact ⟨hc, (QhS hq hf h1 rfl hw).eq (by simp only [SV.den, Nat.add_eq, Nat.add_assoc])⟩
        . cases h
      . cases h
    . cases h
  . -- len
    rename_i x t
    split at h
    . rename_i i ht
      split at h
      . rename_i b hx
        split at h
        . rename_i hy
          simp only [Option.some.injEq, Prod.mk.injEq] at h
          obtain ⟨rfl, rfl⟩ := h
          have h1 := hev hx
          simp only [SV.den] at h1
          exact ⟨hc, (QjH hq (TT.str hT ht hy) h1 hw).eq (by simp only [SV.den])⟩
        . cases h
      . rename_i a l c hx
        split at h
        . rename_i hy
          simp only [Option.some.injEq, Prod.mk.injEq] at h
          obtain ⟨rfl, rfl⟩ := h
          have h1 := hev hx
          simp only [SV.den] at h1
          exact ⟨hc, (DX hq (TT.slc hT ht hy) h1 hw).eq (by simp only [SV.den])⟩
        . cases h
      . rename_i k o l c hx
        split at h
        . rename_i hy
          simp only [Option.some.injEq, Prod.mk.injEq] at h
          obtain ⟨rfl, rfl⟩ := h
          have h1 := hev hx
          simp only [SV.den] at h1
          exact ⟨hc, (DX hq (TT.slc hT ht hy) h1 hw).eq (by simp only [SV.den])⟩
        . cases h
      . rename_i k o l c hx
        split at h
        . rename_i hy
          simp only [Option.some.injEq, Prod.mk.injEq] at h
          obtain ⟨rfl, rfl⟩ := h
          have h1 := hev hx
          simp only [SV.den] at h1
          exact ⟨hc, (DX hq (TT.slc hT ht hy) h1 hw).eq (by simp only [SV.den])⟩
        . cases h
      . cases h
    . cases h
  . -- min
    rename_i x y ts
    split at h
    . rename_i K m hx
      have h1 := hev hx
      simp only [SV.den] at h1
      split at h
      . rename_i K' n hy
        have h2 := hev hy
        simp only [SV.den] at h2
        split at h
        . rename_i hk
          rw [Hb hk] at h2
          simp only [Option.some.injEq, Prod.mk.injEq] at h
          obtain ⟨rfl, rfl⟩ := h
          exact ⟨hc, (QlE hq h1 h2 hw).eq (by simp only [SV.den])⟩
        . cases h
      . cases h
    . cases h
  . rename_i x y ts
    split at h
    . rename_i K m hx
      have h1 := hev hx
      simp only [SV.den] at h1
      split at h
      . rename_i K' n hy
        have h2 := hev hy
        simp only [SV.den] at h2
        split at h
        . rename_i hk
          rw [Hb hk] at h2
          simp only [Option.some.injEq, Prod.mk.injEq] at h
          obtain ⟨rfl, rfl⟩ := h
          exact ⟨hc, (QlF hq h1 h2 hw).eq (by simp only [SV.den])⟩
        . cases h
      . cases h
    . cases h
  . cases h
end
end Go.Proofs.YtbiboamaigedjaaGreatDoor
namespace Go.Proofs.YtbiboamaigedjaaGreatDoor
open Go.RowKit
set_option linter.unusedVariables false
set_option linter.constructorNameAsVariable false
set_option linter.unusedSimpArgs false

/-- The cell at a place: in which symbol it lies, and where in it. -/
def QcS {α : Type} : List SV -> Nat -> (SV -> Nat -> Option α) -> Option α
  | [], _, _ => none
  | x :: l, o, K => match Nat.ble x.wd o with
    | true => QcS l (Nat.sub o x.wd) K
    | false => K x o
theorem K6 {α : Type} {K : SV -> Nat -> Option α} {r : α} (ρ : QS) : ∀ {l : List SV} {o : Nat}, YK l -> QcS l o K = some r -> ∃ x j, K x j = some r /\ j < x.wd /\ x.ok /\ ∀ i, j + i < x.wd -> (Qp ρ l)[o + i]? = (x.cs (x.den ρ))[j + i]?
  | [], _, _, h => by cases h
  | x :: l, o, hk, h => by
    unfold QcS at h
    have hl := FW hk.1 (x.den ρ)
    cases hb : Nat.ble x.wd o with
    | true =>
      rw [hb] at h
      have hle := Nat.le_of_ble_eq_true hb
      obtain ⟨y, j, h1, h2, h3, h4⟩ := K6 ρ hk.2 h
      refine ⟨y, j, h1, h2, h3, fun i hi => ?_⟩
      rw [<- h4 i hi]
      simp only [Qp]
      rw [List.getElem?_append_right (by omega), hl]
      have : Nat.sub o x.wd = o - x.wd := rfl
      rw [this, show o + i - x.wd = o - x.wd + i by omega]
    | false =>
      rw [hb] at h
      have hlt : o < x.wd := by
        rcases Nat.lt_or_ge o x.wd with h' | h'
        . exact h'
        . rw [Nat.ble_eq_true_of_le h'] at hb; cases hb
      refine ⟨x, o, h, hlt, hk.1, fun i hi => ?_⟩
      simp only [Qp]
      rw [List.getElem?_append_left (by omega)]
def GO {α : Type} (n : Nat) (K : Nat -> α) : α := match n with
  | 0 => K 0
  | q + 1 => K (q + 1)
theorem YP {α : Type} {n : Nat} {K : Nat -> α} : GO n K = K n := by cases n <;> rfl
def He : List SV -> Nat -> Option (List SV)
  | [], o => match Nat.beq o 0 with
    | true => some []
    | false => none
  | x :: l, o => match Nat.beq o 0 with
    | true => some (x :: l)
    | false => match Nat.ble x.wd o with
      | true => GO (Nat.sub o x.wd) fun q => He l q
      | false => match x with
        | .a K zs n => GO (Nat.sub n o) fun q => some (.a K (zs.drop o) q :: l)
        | _ => none
theorem JB (ρ : QS) : ∀ {l r : List SV} {o : Nat}, YK l -> He l o = some r -> YK r /\ Qp ρ r = (Qp ρ l).drop o /\ o + YC r = YC l
  | [], r, o, hk, h => by
    unfold He at h
    cases hb : Nat.beq o 0 with
    | true => rw [hb] at h; cases h; have := Nat.eq_of_beq_eq_true hb; subst this; exact ⟨trivial, by simp [Qp], by simp [YC]⟩
    | false => rw [hb] at h; cases h
  | x :: l, r, o, hk, h => by
    unfold He at h
    cases hb : Nat.beq o 0 with
    | true => rw [hb] at h; cases h; have := Nat.eq_of_beq_eq_true hb; subst this; exact ⟨hk, by simp, by simp⟩
    | false =>
      rw [hb] at h
      cases hc : Nat.ble x.wd o with
      | false =>
        rw [hc] at h
        have hlt : o < x.wd := by
          rcases Nat.lt_or_ge o x.wd with h' | h'
          . exact h'
          . rw [Nat.ble_eq_true_of_le h'] at hc; cases hc
        simp only at h
        split at h
        . rename_i K zs n
          rw [YP] at h
          cases h
          have hz : zs.length = n := hk.1
          have e : Nat.sub n o = n - o := rfl
          simp only [SV.wd] at hlt
          refine ⟨⟨by show (zs.drop o).length = Nat.sub n o; rw [List.length_drop, e]; omega, hk.2⟩, ?_, ?_⟩
          . simp only [Qp, SV.cs]
            rw [List.drop_append_of_le_length (by rw [List.length_map]; omega), List.map_drop]
          . simp only [YC, SV.wd]; rw [e]; omega
        . cases h
      | true =>
        rw [hc] at h
        simp only [YP] at h
        have hle := Nat.le_of_ble_eq_true hc
        obtain ⟨h1, h2, h3⟩ := JB ρ hk.2 h
        have hl := FW hk.1 (x.den ρ)
        have e : Nat.sub o x.wd = o - x.wd := rfl
        refine ⟨h1, ?_, ?_⟩
        . rw [h2]
          simp only [Qp, List.drop_append, hl, e]
          rw [show List.drop o (x.cs (x.den ρ)) = [] from List.drop_eq_nil_of_le (by omega), List.nil_append]
        . simp only [YC]; rw [e] at h3; omega
/-- It has so many cells. -/
def eqW : List SV -> Nat -> Bool
  | [], s => Nat.beq s 0
  | x :: l, s => match Nat.ble x.wd s with
    | true => GO (Nat.sub s x.wd) fun q => eqW l q
    | false => false
theorem DS : ∀ {l : List SV} {s : Nat}, eqW l s = true -> YC l = s
  | [], s, h => (Nat.eq_of_beq_eq_true h).symm
  | x :: l, s, h => by
    unfold eqW at h
    cases hc : Nat.ble x.wd s with
    | false => rw [hc] at h; cases h
    | true =>
      rw [hc] at h
      simp only [YP] at h
      have hle := Nat.le_of_ble_eq_true hc
      have := DS h
      have e : Nat.sub s x.wd = s - x.wd := rfl
      simp only [YC]
      rw [e] at this
      omega
def Jf {α : Type} : List SV -> Nat -> (List SV -> Option α) -> Option α
  | [], s, K => match Nat.beq s 0 with
    | true => K []
    | false => none
  | x :: l, s, K => match Nat.beq s 0 with
    | true => K []
    | false => match Nat.ble x.wd s with
      | true => GO (Nat.sub s x.wd) fun q => Jf l q fun r => K (x :: r)
      | false => match x with
        | .a K' zs n => K [.a K' (zs.take s) s]
        | _ => none
theorem Je {α : Type} (ρ : QS) : ∀ {l : List SV} {s : Nat} {K : List SV -> Option α} {r : α}, YK l -> Jf l s K = some r -> ∃ t, K t = some r /\ YK t /\ Qp ρ t = (Qp ρ l).take s /\ YC t = s
  | [], s, K, r, hk, h => by
    unfold Jf at h
    cases hb : Nat.beq s 0 with
    | true => rw [hb] at h; have := Nat.eq_of_beq_eq_true hb; subst this; exact ⟨[], h, trivial, by simp [Qp], rfl⟩
    | false => rw [hb] at h; cases h
  | x :: l, s, K, r, hk, h => by
    unfold Jf at h
    cases hb : Nat.beq s 0 with
    | true => rw [hb] at h; have := Nat.eq_of_beq_eq_true hb; subst this; exact ⟨[], h, trivial, by simp [Qp], rfl⟩
    | false =>
      rw [hb] at h
      cases hc : Nat.ble x.wd s with
      | false =>
        rw [hc] at h
        have hlt : s < x.wd := by
          rcases Nat.lt_or_ge s x.wd with h' | h'
          . exact h'
          . rw [Nat.ble_eq_true_of_le h'] at hc; cases hc
        simp only at h
        split at h
        . rename_i K' zs n
          have hz : zs.length = n := hk.1
          simp only [SV.wd] at hlt
          refine ⟨_, h, ⟨by show (zs.take s).length = s; rw [List.length_take]; omega, trivial⟩, ?_, by simp [YC, SV.wd]⟩
          simp only [Qp, SV.cs, List.append_nil]
          rw [List.take_append_of_le_length (by rw [List.length_map]; omega), List.map_take]
        . cases h
      | true =>
        rw [hc] at h
        simp only [YP] at h
        have hle := Nat.le_of_ble_eq_true hc
        obtain ⟨t, h1, h2, h3, h4⟩ := Je ρ hk.2 h
        have hl := FW hk.1 (x.den ρ)
        have e : Nat.sub s x.wd = s - x.wd := rfl
        rw [e] at h3 h4
        refine ⟨x :: t, h1, ⟨hk.1, h2⟩, ?_, by simp only [YC]; omega⟩
        simp only [Qp, List.take_append, hl, h3]
        rw [show List.take s (x.cs (x.den ρ)) = x.cs (x.den ρ) from List.take_of_length_le (by omega)]
def Qb2 {α : Type} : List SV -> List SV -> (List SV -> α) -> α
  | [], b, K => K b
  | x :: l, b, K => Qb2 l b fun r => K (x :: r)
theorem Gu {α : Type} : ∀ {a b : List SV} {K : List SV -> α}, Qb2 a b K = K (a ++ b)
  | [], b, K => rfl
  | x :: l, b, K => by unfold Qb2; rw [Gu]; rfl
/-- A symbol of one cell. -/
def SV.atom : SV -> Bool
  | .i _ _ => true
  | .lit _ _ => true
  | .c _ _ => true
  | .l _ => true
  | .s _ => true
  | .p _ _ => true
  | .x _ _ _ _ => true
  | .q _ _ => true
  | .y _ _ _ _ => true
  | .z _ _ _ _ => true
  | .r _ _ _ _ => true
  | .o _ _ _ => true
  | .f _ _ => true
  | _ => false
theorem Gr {x : SV} (h : x.atom = true) (ρ : QS) : (x.den ρ).oneCell' = true /\ x.wd = 1 /\ x.cs (x.den ρ) = [x.den ρ] /\ x.ok := by
  cases x <;> simp_all [SV.atom, SV.den, SV.wd, SV.cs, SV.ok, Value.oneCell']
/-- XD cells are of one. -/
def Qfh : List SV -> Bool
  | [] => true
  | .a _ _ _ :: l => Qfh l
  | x :: l => match x.atom with
    | true => Qfh l
    | false => false
theorem KW (ρ : QS) : ∀ {l : List SV}, Qfh l = true -> ∀ v ∈ Qp ρ l, v.oneCell' = true
  | [], _, v, hv => by simp [Qp] at hv
  | x :: l, h, v, hv => by
    simp only [Qp, List.mem_append] at hv
    cases x
    case a K zs n =>
      rcases hv with hv | hv
      . simp only [SV.cs, List.mem_map] at hv
        obtain ⟨z, _, rfl⟩ := hv
        rfl
      . exact KW ρ (by simpa only [Qfh] using h) v hv
    all_goals
      unfold Qfh at h
      split at h
      . rename_i ha
        rcases hv with hv | hv
        . rw [(Gr ha ρ).2.2.1, List.mem_singleton] at hv
          rw [hv]
          exact (Gr ha ρ).1
        . exact KW ρ h v hv
      . cases h
def FL : List SV -> Bool
  | [] => false
  | .a _ _ _ :: _ => true
  | _ :: l => FL l
theorem UZ : ∀ {l : List SV}, FL l = false -> YK l
  | [], _ => trivial
  | x :: l, h => by
    cases x
    case a K zs n => simp [FL] at h
    all_goals exact ⟨trivial, UZ (by simpa only [FL] using h)⟩
/-- The cells of a value that is stored. -/
def U1 (acc : List Prop) : SV -> Option (List SV × List Prop)
  | .g l => match Qfh l with
    | true => match FL l with
      | true => some (l, YK l :: acc)
      | false => some (l, acc)
    | false => none
  | .a K zs n => some ([.a K zs n], (zs.length = n) :: acc)
  | x => match x.atom with
    | true => some ([x], acc)
    | false => none
theorem YR {ρ : QS} {acc acc' : List Prop} {x : SV} {c : List SV} (h : U1 acc x = some (c, acc')) (hc : XD acc') : XD acc /\ YK c /\ (x.den ρ).cells.toList = Qp ρ c /\ ∀ v ∈ Qp ρ c, v.oneCell' = true := by
  cases x
  case g l =>
    simp only [U1] at h
    split at h
    . rename_i h1
      split at h
      . simp only [Option.some.injEq, Prod.mk.injEq] at h
        obtain ⟨rfl, rfl⟩ := h
        exact ⟨hc.2, hc.1, by simp only [SV.den, Value.cells], KW ρ h1⟩
      . rename_i h2
        simp only [Option.some.injEq, Prod.mk.injEq] at h
        obtain ⟨rfl, rfl⟩ := h
        exact ⟨hc, UZ h2, by simp only [SV.den, Value.cells], KW ρ h1⟩
    . cases h
  case a K zs n =>
    simp only [U1, Option.some.injEq, Prod.mk.injEq] at h
    obtain ⟨rfl, rfl⟩ := h
    refine ⟨hc.2, ⟨hc.1, trivial⟩, by simp only [SV.den, Value.cells, Qp, SV.cs, List.append_nil], KW ρ rfl⟩
  all_goals
    simp only [U1] at h
    split at h
    . rename_i ha
      simp only [Option.some.injEq, Prod.mk.injEq] at h
      obtain ⟨rfl, rfl⟩ := h
      have h1 := Gr ha ρ
      refine ⟨hc, ⟨h1.2.2.2, trivial⟩, by simp only [Qp, List.append_nil]; rw [h1.2.2.1]; exact QcO h1.1, fun v hv => ?_⟩
      simp only [Qp, List.append_nil] at hv
      rw [h1.2.2.1, List.mem_singleton] at hv
      rw [hv]
      exact h1.1
    . cases h
abbrev atD : SD -> Nat -> Option (List SV) := ZI
theorem QeC {m : SD} {k : Nat} {c : List SV} (h : atD m k = some c) : (k, c) ∈ m := Zu h
/-- Where a pointer leads: the cells, and the place among them. -/
def Qdo (m : SM) (d : SD) : SV -> Option (List SV × Nat)
  | .p k o => match ZI m k with
    | some c => some (c, o)
    | none => none
  | .q j o => match atD d j with
    | some c => some (c, o)
    | none => none
  | _ => none
def K7 (i : TI) : List SV -> SV
  | [.a K zs n] => match Nat.beq i.n 0 with
    | true => .g [.a K zs n]
    | false => .a K zs n
  | l => .g l
theorem JS (ρ : QS) (i : TI) (l : List SV) : (K7 i l).den ρ = .agg (Qp ρ l).toArray := by
  unfold K7
  split
  . split
    . simp only [SV.den]
    . simp only [SV.den, Qp, SV.cs, List.append_nil]
  . simp only [SV.den]
def Qbs (x : SV) (j : Nat) : Option SV := match x with
  | .a K zs _ => some (.i K (zs.getD j 0))
  | .t _ => none
  | .g _ => none
  | x => match Nat.beq j 0 with
    | true => some x
    | false => none
theorem Qbr {ρ : QS} {x v : SV} {j : Nat} (h : Qbs x j = some v) (hx : x.ok) (hj : j < x.wd) : (x.cs (x.den ρ))[j]? = some (v.den ρ) := by
  cases x
  case a K zs n =>
    simp only [Qbs, Option.some.injEq] at h
    subst h
    simp only [SV.wd] at hj
    have : zs.length = n := hx
    simp only [SV.cs, SV.den, List.getElem?_map]
    rw [List.getD_eq_getElem?_getD, List.getElem?_eq_getElem (by omega)]
    rfl
  all_goals first
    | (cases h; done)
    | (simp only [Qbs] at h
       split at h
       . rename_i hb
         cases h
         rw [Nat.eq_of_beq_eq_true hb]
         rfl
       . cases h)
/-- A variable place: among which cells, from where on, steps of what size, how many. -/
def QfI (m : SM) (d : SD) : SV -> Option (List SV × Nat × Nat × Int)
  | .x k o s n => match ZI m k with
    | some c => some (c, o, s, n)
    | none => none
  | .r j o s n => match atD d j with
    | some c => some (c, o, s, n)
    | none => none
  | _ => none
/-- What a load gives. -/
def GN (T : TT) (m : SM) (d : SD) (acc : List Prop) (t : Nat) (x : SV) : Option (SV × List Prop) := match T.get t with
  | none => none
  | some i => match QfI m d x with
    | some (c, o, s, n) => match i.g with
      | true => QcS c o fun x j => match x with
        | .a K zs z => some (K7 i [.a K ((zs.drop (Nat.add j (Nat.mul (Int.toNat n) s))).take i.s) i.s], (0 <= n /\ j + n.toNat * s + i.s <= z) :: acc)
        | _ => none
      | false => match Nat.beq s 1 with
        | true => QcS c o fun x j => match x with
          | .a K zs z => match Nat.beq j 0 with
            | true => some (.i K (zs.getD n.toNat 0), (0 <= n /\ n < (z : Int)) :: acc)
            | false => some (.i K (zs.getD (Nat.add j n.toNat) 0), (0 <= n /\ (j : Int) + n < (z : Int)) :: acc)
          | _ => none
        | false => none
    | none => match i.g with
      | true => match Qdo m d x with
        | some (c, o) => match He c o with
          | some r => Jf r i.s fun r => some (K7 i r, acc)
          | none => none
        | none => none
      | false => match Qdo m d x with
        | some (c, o) => QcS c o fun x j => match Qbs x j with
          | some v => some (v, acc)
          | none => none
        | none => none
/-- A pointer at a variable place, where the block's cells are told one by one: at that place. -/
def nrm (c : List SV) (x : SV) : SV := match x with
  | .x k o s n => match FL c with
    | true => .x k o s n
    | false => .p k (Nat.add o (Nat.mul (Int.toNat n) s))
  | .r k o s n => match FL c with
    | true => .r k o s n
    | false => .q k (Nat.add o (Nat.mul (Int.toNat n) s))
  | x => x
theorem Dz {ρ : QS} {c : List SV} {x : SV} : (nrm c x).den ρ = x.den ρ := by
  unfold nrm
  split
  . split
    . rfl
    . simp only [SV.den]; rfl
  . split
    . rfl
    . simp only [SV.den]; rfl
  . rfl
def DA (m : SM) (d : SD) (x : SV) : SV := match x with
  | .x k o s n => match ZI m k with
    | some c => nrm c (.x k o s n)
    | none => .x k o s n
  | .r k o s n => match atD d k with
    | some c => nrm c (.r k o s n)
    | none => .r k o s n
  | x => x
theorem Qg9 {ρ : QS} {m : SM} {d : SD} {x : SV} : (DA m d x).den ρ = x.den ρ := by
  unfold DA
  split
  . split
    . exact Dz
    . rfl
  . split
    . exact Dz
    . rfl
  . rfl
def FE (T : TT) (m : SM) (d : SD) (acc : List Prop) (t : Nat) (x : SV) : Option (SV × List Prop) := GN T m d acc t (DA m d x)
section
variable {P : Program} {ops : Array Oper} {o : Oper} {N : Nat} {w w0 : World} {ρ : QS} {T : TT} {acc acc' : List Prop} {L0 : List Nat} {m : SM} {d : SD} {n : Nat} {Γ : List QN} {fl : Fl}
theorem QeD (hW : WM ρ L0 w0 m d n Γ w) {x : SV} {c : List SV} {o' : Nat} (h : Qdo m d x = some (c, o')) : ∃ X o0, x.den ρ = .pointer (some ⟨X, o0 + o', none⟩) /\ w.rangeAt X o0 (Qp ρ c) /\ YK c := by
  unfold Qdo at h
  split at h
  . rename_i k o
    split at h
    . rename_i c' hk
      simp only [Option.some.injEq, Prod.mk.injEq] at h
      obtain ⟨rfl, rfl⟩ := h
      obtain ⟨h1, h2⟩ := hW.cell hk
      exact ⟨ρ.b k, 0, by simp only [SV.den, Nat.zero_add], h1.range, h2⟩
    . cases h
  . rename_i k o
    split at h
    . rename_i c' hk
      simp only [Option.some.injEq, Prod.mk.injEq] at h
      obtain ⟨rfl, rfl⟩ := h
      obtain ⟨_, h1, h2, _⟩ := hW.dat _ (QeC hk)
      exact ⟨(ρ.d k).1, (ρ.d k).2, by simp only [SV.den], h1, h2⟩
    . cases h
  . cases h
theorem Qj8 (hW : WM ρ L0 w0 m d n Γ w) {x : SV} {c : List SV} {o' s' : Nat} {n' : Int} (h : QfI m d x = some (c, o', s', n')) : ∃ X o0, x.den ρ = .pointer (some ⟨X, o0 + (o' + n'.toNat * s'), none⟩) /\ w.rangeAt X o0 (Qp ρ c) /\ YK c := by
  unfold QfI at h
  split at h
  . rename_i k o s n
    split at h
    . rename_i c' hk
      simp only [Option.some.injEq, Prod.mk.injEq] at h
      obtain ⟨rfl, rfl, rfl, rfl⟩ := h
      obtain ⟨h1, h2⟩ := hW.cell hk
      exact ⟨ρ.b k, 0, by simp only [SV.den, Nat.zero_add], h1.range, h2⟩
    . cases h
  . rename_i k o s n
    split at h
    . rename_i c' hk
      simp only [Option.some.injEq, Prod.mk.injEq] at h
      obtain ⟨rfl, rfl, rfl, rfl⟩ := h
      obtain ⟨_, h1, h2, _⟩ := hW.dat _ (QeC hk)
      exact ⟨(ρ.d k).1, (ρ.d k).2, by simp only [SV.den], h1, h2⟩
    . cases h
  . cases h
theorem Qfv (hT : T.ok P = true) (hW : WM ρ L0 w0 m d n Γ w) (hw : Qu ops o fl = some true) {t : Nat} {x : Operand} {sx v : SV} (ho : o.op = .load t x) (hx : ev fl x = some (sx.den ρ)) (h : GN T m d acc t sx = some (v, acc')) (hc : XD acc') : XD acc /\ Yl P ops o N ρ fl w v := by
  have cell : ∀ {c : List SV} {o' X o0 : Nat} {y : SV}, w.rangeAt X o0 (Qp ρ c) -> (Qp ρ c)[o']? = some (y.den ρ) -> w.cell? ⟨X, o0 + o', none⟩ = some (y.den ρ) := fun h1 h2 => h1 _ _ h2
  unfold GN at h
  split at h
  . cases h
  . rename_i i hi
    split at h
    . rename_i c o' s' n' ha
      obtain ⟨X, o0, e1, e2, e3⟩ := Qj8 hW ha
      rw [e1] at hx
      split at h
      . rename_i hg
        obtain ⟨y, j, h1, h2, h3, h4⟩ := K6 ρ e3 h
        split at h1
        . rename_i K zs z
          simp only [Option.some.injEq, Prod.mk.injEq] at h1
          obtain ⟨rfl, rfl⟩ := h1
          obtain ⟨⟨g1, g2⟩, g3⟩ := hc
          refine ⟨g3, ?_⟩
          have hz : zs.length = z := h3
          show DV P ops o N fl w _
          rw [JS]
          refine Zk ho (TT.agg hT hi hg) hx (cs := Qp ρ [.a K ((zs.drop (Nat.add j (Nat.mul (Int.toNat n') s'))).take i.s) i.s]) ?_ ?_ hw
          . intro q u hq
            simp only [Qp, SV.cs, List.append_nil, List.getElem?_map, List.getElem?_take, List.getElem?_drop] at hq
            split at hq
            . rename_i hlt
              have h5 := h4 (n'.toNat * s' + q) (by simp only [SV.wd]; omega)
              simp only [SV.cs, List.getElem?_map] at h5
              have e : Nat.add j (Nat.mul (Int.toNat n') s') + q = j + (n'.toNat * s' + q) := Nat.add_assoc _ _ _
              rw [e, <- h5] at hq
              have := e2 _ _ hq
              rw [show o0 + (o' + (n'.toNat * s' + q)) = o0 + (o' + n'.toNat * s') + q by omega] at this
              exact this
            . simp at hq
          . have e : Nat.add j (Nat.mul (Int.toNat n') s') = j + n'.toNat * s' := rfl
            simp only [Qp, SV.cs, List.append_nil, List.length_map, List.length_take, List.length_drop, e]
            omega
        . cases h1
      . rename_i hg
        have ht := TT.one hT hi hg
        split at h
        . rename_i hs
          obtain ⟨y, j, h1, h2, h3, h4⟩ := K6 ρ e3 h
          have es := Nat.eq_of_beq_eq_true hs
          subst es
          split at h1
          . rename_i K zs z
            have hz : zs.length = z := h3
            split at h1
            . rename_i hj
              simp only [Option.some.injEq, Prod.mk.injEq] at h1
              obtain ⟨rfl, rfl⟩ := h1
              refine ⟨hc.2, ?_⟩
              obtain ⟨g1, g2⟩ := hc.1
              have ej := Nat.eq_of_beq_eq_true hj
              subst ej
              have h5 := h4 n'.toNat (by simp only [SV.wd]; omega)
              simp only [SV.cs, Nat.zero_add, List.getElem?_map] at h5
              have hz2 : n'.toNat < zs.length := by omega
              rw [show zs[n'.toNat]? = some zs[n'.toNat] from List.getElem?_eq_getElem hz2] at h5
              simp only [Nat.mul_one] at hx
              have hcell := e2 _ _ h5
              refine (Qv ho ht hx hcell hw).eq ?_
              simp only [SV.den, List.getD_eq_getElem?_getD]
              rw [List.getElem?_eq_getElem (by omega)]
              rfl
            . simp only [Option.some.injEq, Prod.mk.injEq] at h1
              obtain ⟨rfl, rfl⟩ := h1
              refine ⟨hc.2, ?_⟩
              obtain ⟨g1, g2⟩ := hc.1
              have h5 := h4 n'.toNat (by simp only [SV.wd]; omega)
              simp only [SV.cs, List.getElem?_map] at h5
              have hz2 : j + n'.toNat < zs.length := by omega
              rw [show zs[j + n'.toNat]? = some zs[j + n'.toNat] from List.getElem?_eq_getElem hz2] at h5
              simp only [Nat.mul_one] at hx
              have hcell := e2 _ _ h5
              refine (Qv ho ht hx hcell hw).eq ?_
              have e : Nat.add j n'.toNat = j + n'.toNat := rfl
              simp only [SV.den, List.getD_eq_getElem?_getD, e]
              rw [List.getElem?_eq_getElem (by omega)]
              rfl
          . cases h1
        . cases h
    . split at h
      . rename_i hg
        split at h
        . rename_i c o' ha
          split at h
          . rename_i r hr
            obtain ⟨X, o0, e1, e2, e3⟩ := QeD hW ha
            obtain ⟨h1, h2, h3⟩ := JB ρ e3 hr
            obtain ⟨r', h4, h5, h6, h7⟩ := Je ρ h1 h
            simp only [Option.some.injEq, Prod.mk.injEq] at h4
            obtain ⟨rfl, rfl⟩ := h4
            refine ⟨hc, ?_⟩
            show DV P ops o N fl w ((K7 i r').den ρ)
            rw [JS]
            rw [e1] at hx
            refine Zk ho (TT.agg hT hi hg) hx (cs := Qp ρ r') ?_ (by rw [Xm ρ h5, h7]) hw
            have := UP e2 o' i.s
            rwa [<- h2, <- h6] at this
          . cases h
        . cases h
      . rename_i hg
        have ht := TT.one hT hi hg
        split at h
        . rename_i c o' ha
          obtain ⟨X, o0, e1, e2, e3⟩ := QeD hW ha
          obtain ⟨y, j, h1, h2, h3, h4⟩ := K6 ρ e3 h
          split at h1
          . rename_i u hu
            simp only [Option.some.injEq, Prod.mk.injEq] at h1
            obtain ⟨rfl, rfl⟩ := h1
            rw [e1] at hx
            exact ⟨hc, Qv ho ht hx (cell e2 (by have h5 := h4 0 h2; rw [Nat.add_zero, Nat.add_zero] at h5; rw [h5]; exact Qbr hu h3 h2)) hw⟩
          . cases h1
        . cases h
theorem FD (hT : T.ok P = true) (hW : WM ρ L0 w0 m d n Γ w) (hw : Qu ops o fl = some true) {t : Nat} {x : Operand} {sx v : SV} (ho : o.op = .load t x) (hx : ev fl x = some (sx.den ρ)) (h : FE T m d acc t sx = some (v, acc')) (hc : XD acc') : XD acc /\ Yl P ops o N ρ fl w v :=
  Qfv hT hW hw ho (hx.trans (by rw [Qg9])) h hc
end
end Go.Proofs.YtbiboamaigedjaaGreatDoor
namespace Go.Proofs.YtbiboamaigedjaaGreatDoor
open Go.RowKit
set_option linter.unusedVariables false
set_option linter.constructorNameAsVariable false
set_option linter.unusedSimpArgs false

def QeM {α : Type} : List SV -> Nat -> (SV -> Nat -> Option (SV × List Prop)) -> (List SV -> List Prop -> Option α) -> Option α
  | [], _, _, _ => none
  | x :: l, o, g, K => match Nat.ble x.wd o with
    | true => QeM l (Nat.sub o x.wd) g fun r acc => K (x :: r) acc
    | false => match g x o with
      | some (y, acc) => K (y :: l) acc
      | none => none
theorem Ho {α : Type} {g : SV -> Nat -> Option (SV × List Prop)} : ∀ {l : List SV} {o : Nat} {K : List SV -> List Prop -> Option α} {r : α}, QeM l o g K = some r -> ∃ pre x y j acc post, l = pre ++ x :: post /\ K (pre ++ y :: post) acc = some r /\ g x j = some (y, acc) /\ j < x.wd /\ o = YC pre + j
  | [], _, _, _, h => by cases h
  | x :: l, o, K, r, h => by
    unfold QeM at h
    cases hb : Nat.ble x.wd o with
    | true =>
      rw [hb] at h
      have hle := Nat.le_of_ble_eq_true hb
      obtain ⟨pre, z, y, j, acc, post, h1, h2, h3, h4, h5⟩ := Ho h
      have e : Nat.sub o x.wd = o - x.wd := rfl
      rw [e] at h5
      exact ⟨x :: pre, z, y, j, acc, post, by rw [h1]; rfl, h2, h3, h4, by simp only [YC]; omega⟩
    | false =>
      rw [hb] at h
      simp only at h
      split at h
      . rename_i y acc hg
        have hlt : o < x.wd := by
          rcases Nat.lt_or_ge o x.wd with h' | h'
          . exact h'
          . rw [Nat.ble_eq_true_of_le h'] at hb; cases hb
        exact ⟨[], x, y, o, acc, l, rfl, h, hg, hlt, by simp [YC]⟩
      . cases h
theorem Hl : ∀ {a b : List SV}, YC (a ++ b) = YC a + YC b
  | [], b => by simp [YC]
  | x :: l, b => by simp only [List.cons_append, YC, Hl (a := l) (b := b)]; omega
/-- One cell of a symbol, written anew. -/
theorem Er {ρ : QS} {pre post : List SV} {x y : SV} {j : Nat} {v : Value} (h : YK (pre ++ x :: post)) (hj : j < x.wd) (hy : y.ok) (he : y.cs (y.den ρ) = (x.cs (x.den ρ)).set j v) : YK (pre ++ y :: post) /\ (Qp ρ (pre ++ x :: post)).take (YC pre + j) ++ ([v] ++ (Qp ρ (pre ++ x :: post)).drop (YC pre + j + 1)) = Qp ρ (pre ++ y :: post) := by
  obtain ⟨h1, h2, h3⟩ := Z5.1 h
  have hl := Xm ρ h1
  have hx := FW h2 (x.den ρ)
  refine ⟨Z5.2 ⟨h1, hy, h3⟩, ?_⟩
  rw [Z3, Z3]
  simp only [Qp]
  rw [he, List.set_eq_take_append_cons_drop, if_pos (by omega)]
  rw [List.take_append, List.drop_append, hl, List.take_of_length_le (by omega), List.drop_eq_nil_of_le (by omega)]
  rw [show YC pre + j - YC pre = j by omega, show YC pre + j + 1 - YC pre = j + 1 by omega]
  rw [List.take_append, List.drop_append, hx, show j - x.wd = 0 by omega, show j + 1 - x.wd = 0 by omega]
  simp
def Da (acc : List Prop) (v : SV) (x : SV) (j : Nat) : Option (SV × List Prop) := match x with
  | .a K zs n => match v with
    | .i K' y => match kq K' K with
      | true => some (.a K (zs.set j y) n, acc)
      | false => none
    | _ => none
  | .t _ => none
  | .g _ => none
  | _ => match Nat.beq j 0 with
    | true => match v.atom with
      | true => some (v, acc)
      | false => none
    | false => none
def Qcn (acc : List Prop) (v : SV) (i : Int) (x : SV) (j : Nat) : Option (SV × List Prop) := match x with
  | .a K zs n => match v with
    | .i K' y => match kq K' K with
      | true => match Nat.beq j 0 with
        | true => some (.a K (zs.set i.toNat y) n, (0 <= i /\ i < (n : Int)) :: acc)
        | false => none
      | false => none
    | _ => none
  | _ => none
/-- A row of numbers at a variable place among others. -/
def Qgc (acc : List Prop) (K : IntKind) (ys : List Int) (q s : Nat) (i : Int) (x : SV) (j : Nat) : Option (SV × List Prop) := match x with
  | .a K' zs n => match kq K' K with
    | true => some (.a K (zs.take (Nat.add j (Nat.mul (Int.toNat i) s)) ++ (ys ++ zs.drop (Nat.add (Nat.add j (Nat.mul (Int.toNat i) s)) q))) n, (0 <= i /\ j + i.toNat * s + q <= n /\ ys.length = q) :: acc)
    | false => none
  | _ => none
/-- What a store leaves of a block. -/
def Db (T : TT) (acc : List Prop) (t : Nat) (x v : SV) (c : List SV) : Option (List SV × List Prop) := match T.get t with
  | none => none
  | some i => match i.g with
    | true => match x with
      | .p k o => match U1 acc v with
        | some (vs, acc) => match eqW vs i.s with
          | true => Jf c o fun a => match He c (Nat.add o i.s) with
            | some b => Qb2 vs b fun vb => Qb2 a vb fun c' => some (c', acc)
            | none => none
          | false => none
        | none => none
      | .x k o s z => match U1 acc v with
        | some ([.a K ys q], acc) => match Nat.beq q i.s with
          | true => QeM c o (Qgc acc K ys i.s s z) fun c' acc => some (c', acc)
          | false => none
        | _ => none
      | _ => none
    | false => match x with
      | .p k o => QeM c o (Da acc v) fun c' acc => some (c', acc)
      | .x k o s i => match Nat.beq s 1 with
        | true => QeM c o (Qcn acc v i) fun c' acc => some (c', acc)
        | false => none
      | _ => none
/-- Which own block a pointer leads to. -/
def K8 : SV -> Option Nat
  | .p k _ => some k
  | .x k _ _ _ => some k
  | _ => none
theorem Dy {c : List SV} {x : SV} : K8 (nrm c x) = K8 x := by
  unfold nrm
  split
  . split <;> rfl
  . split <;> rfl
  . rfl
def Qcq (T : TT) (acc : List Prop) (t : Nat) (x v : SV) (c : List SV) : Option (List SV × List Prop) := Db T acc t (nrm c x) v c
/-- What a store leaves. -/
def Qco (T : TT) (m : SM) (acc : List Prop) (t : Nat) (x v : SV) : Option (SM × List Prop) := match K8 x with
  | some k => match ZI m k with
    | some c => match Qcq T acc t x v c with
      | some (c', acc) => Qgk k c' m fun m' => some (m', acc)
      | none => none
    | none => none
  | none => none
theorem QeX {ρ : QS} {acc acc' : List Prop} {v x y : SV} {j : Nat} (h : Da acc v x j = some (y, acc')) (hx : x.ok) (hj : j < x.wd) : acc' = acc /\ y.ok /\ (v.den ρ).oneCell' = true /\ y.cs (y.den ρ) = (x.cs (x.den ρ)).set j (v.den ρ) := by
  cases x
  case a K zs n =>
    simp only [Da] at h
    split at h
    . rename_i K' z
      split at h
      . rename_i hk
        simp only [Option.some.injEq, Prod.mk.injEq] at h
        obtain ⟨rfl, rfl⟩ := h
        have e := Hb hk
        subst e
        have : zs.length = n := hx
        exact ⟨rfl, by simp only [SV.ok, List.length_set]; exact this, by simp only [SV.den, Value.oneCell'], by simp only [SV.cs, SV.den, List.map_set]⟩
      . cases h
    . cases h
  all_goals first
    | (cases h; done)
    | (simp only [Da] at h
       split at h
       . rename_i hb
         split at h
         . rename_i ha
           simp only [Option.some.injEq, Prod.mk.injEq] at h
           obtain ⟨rfl, rfl⟩ := h
           have h1 := Gr ha ρ
           rw [Nat.eq_of_beq_eq_true hb]
           exact ⟨rfl, h1.2.2.2, h1.1, by rw [h1.2.2.1]; rfl⟩
         . cases h
       . cases h)
theorem QeV {ρ : QS} {acc acc' : List Prop} {v x y : SV} {i : Int} {j : Nat} (h : Qcn acc v i x j = some (y, acc')) (hc : XD acc') (hx : x.ok) : XD acc /\ j = 0 /\ i.toNat < x.wd /\ y.ok /\ (v.den ρ).oneCell' = true /\ y.cs (y.den ρ) = (x.cs (x.den ρ)).set i.toNat (v.den ρ) := by
  unfold Qcn at h
  split at h
  . rename_i K zs n
    split at h
    . rename_i K' z
      split at h
      . rename_i hk
        split at h
        . rename_i hj
          simp only [Option.some.injEq, Prod.mk.injEq] at h
          obtain ⟨rfl, rfl⟩ := h
          have e := Hb hk
          subst e
          have : zs.length = n := hx
          obtain ⟨⟨g1, g2⟩, g3⟩ := hc
          exact ⟨g3, Nat.eq_of_beq_eq_true hj, by simp only [SV.wd]; omega, by simp only [SV.ok, List.length_set]; exact this, by simp only [SV.den, Value.oneCell'], by simp only [SV.cs, SV.den, List.map_set]⟩
        . cases h
      . cases h
    . cases h
  . cases h
section
variable {P : Program} {ops : Array Oper} {o : Oper} {N : Nat} {w w0 : World} {ρ : QS} {T : TT} {acc acc' : List Prop} {L0 : List Nat} {m m' : SM} {d : SD} {n : Nat} {Γ : List QN} {fl : Fl}
theorem QcG {A B C V : List Value} {a p q : Nat} (ha : A.length = a) (hp : p + q <= B.length) : (A ++ (B ++ C)).take (a + p) ++ (V ++ (A ++ (B ++ C)).drop (a + p + q)) = A ++ ((B.take p ++ (V ++ B.drop (p + q))) ++ C) := by
  subst ha
  rw [List.take_length_add_append, show A.length + p + q = A.length + (p + q) by omega, List.drop_length_add_append, List.take_append_of_le_length (by omega), List.drop_append_of_le_length (by omega)]
  simp only [List.append_assoc]
theorem Qcp (hT : T.ok P = true) (hw : Qu ops o fl = some true) {t k : Nat} {x y : Operand} {sx v : SV} {c c' : List SV} (hk : K8 sx = some k) (hb : Q8 w (ρ.b k) (Qp ρ c)) (hok : YK c) (ho : o.op = .store t x y) (hx : ev fl x = some (sx.den ρ)) (hy : ev fl y = some (v.den ρ)) (h : Db T acc t sx v c = some (c', acc')) (hc : XD acc') : XD acc /\ YK c' /\ DR P ops o N fl w fun _ W => Q8 W (ρ.b k) (Qp ρ c') /\ U4 (ρ.b k) w W := by
  unfold Db at h
  split at h
  . cases h
  . rename_i i hi
    have hsz := TT.size hT hi
    split at h
    . rename_i hg
      split at h
      . rename_i k' o'
        cases hk
        split at h
        . rename_i vs acc1 hv
          split at h
          . rename_i hwd
            obtain ⟨a, h1, h2, h3, h4⟩ := Je ρ hok h
            split at h1
            . rename_i b hb'
              simp only [Gu, Option.some.injEq, Prod.mk.injEq] at h1
              obtain ⟨rfl, rfl⟩ := h1
              obtain ⟨c0, c1, c2, c3⟩ := YR (ρ := ρ) hv hc
              obtain ⟨d1, d2, d3⟩ := JB ρ hok hb'
              have hws := DS hwd
              have e : Nat.add o' i.s = o' + i.s := rfl
              rw [e] at d2 d3
              simp only [SV.den] at hx
              exact ⟨c0, Z5.2 ⟨h2, Z5.2 ⟨c1, d1⟩⟩, Xr (cs' := Qp ρ (a ++ (vs ++ b))) ho hsz hx hy c2 c3 hb (by rw [Xm ρ c1, hws]) (by rw [Xm ρ hok]; omega) (by rw [Z3, Z3, h3, d2]) hw⟩
            . cases h1
          . cases h
        . cases h
      . rename_i k' o' s ii
        cases hk
        split at h
        . rename_i K ys qq acc1 hv
          split at h
          . rename_i hq
            have hq := Nat.eq_of_beq_eq_true hq
            obtain ⟨pre, z, y', j, acc2, post, e1, h1, h2, h3, h4⟩ := Ho h
            simp only [Option.some.injEq, Prod.mk.injEq] at h1
            obtain ⟨rfl, rfl⟩ := h1
            subst e1
            unfold Qgc at h2
            split at h2
            . rename_i K' zs n'
              split at h2
              . rename_i hkk
                simp only [Option.some.injEq, Prod.mk.injEq] at h2
                obtain ⟨rfl, rfl⟩ := h2
                obtain ⟨⟨g1, g2, g3⟩, g4⟩ := hc
                obtain ⟨c0, c1, c2, c3⟩ := YR (ρ := ρ) hv g4
                have ek := Hb hkk
                subst ek
                obtain ⟨p1, p2, p3⟩ := Z5.1 hok
                have hz : zs.length = n' := p2
                have hlp := Xm ρ p1
                have ep : Nat.add j (Nat.mul ii.toNat s) = j + ii.toNat * s := rfl
                have eq2 : Nat.add (j + ii.toNat * s) i.s = j + ii.toNat * s + i.s := rfl
                simp only [SV.den] at hx
                refine ⟨c0, Z5.2 ⟨p1, ?_, p3⟩, Xr (cs' := Qp ρ (pre ++ SV.a K' (zs.take (j + ii.toNat * s) ++ (ys ++ zs.drop (j + ii.toNat * s + i.s))) n' :: post)) ho hsz hx hy c2 c3 hb ?_ ?_ ?_ hw⟩
                . show (zs.take (Nat.add j (Nat.mul ii.toNat s)) ++ (ys ++ zs.drop (Nat.add (Nat.add j (Nat.mul ii.toNat s)) i.s))).length = n'
                  simp only [ep, eq2, List.length_append, List.length_take, List.length_drop]
                  omega
                . simp only [Qp, SV.cs, List.append_nil, List.length_map]; exact g3
                . rw [Xm ρ hok, Hl]; simp only [YC, SV.wd]; omega
                . rw [Z3, Z3]
                  simp only [Qp, SV.cs, List.append_nil, List.map_append, List.map_take, List.map_drop]
                  rw [show o' + ii.toNat * s = YC pre + (j + ii.toNat * s) by omega, show YC pre + (j + ii.toNat * s) + i.s = YC pre + (j + ii.toNat * s) + i.s from rfl]
                  exact QcG hlp (by rw [List.length_map]; omega)
              . cases h2
            . cases h2
          . cases h
        . cases h
      . cases h
    . rename_i hg
      have hs1 : i.s = 1 := by
        have := TT.at hT hi
        simp only [tB, Bool.and_eq_true] at this
        have := this.1.1.1.1.1.1.1.2
        rw [hg] at this
        simp only [cond_false, Bool.and_eq_true] at this
        exact Nat.eq_of_beq_eq_true this.2
      rw [hs1] at hsz
      split at h
      . rename_i k' o'
        cases hk
        obtain ⟨pre, z, y', j, acc1, post, e1, h1, h2, h3, h4⟩ := Ho h
        simp only [Option.some.injEq, Prod.mk.injEq] at h1
        obtain ⟨rfl, rfl⟩ := h1
        subst e1
        obtain ⟨rfl, g1, g2, g3⟩ := QeX (ρ := ρ) h2 (Z5.1 hok).2.1 h3
        obtain ⟨q1, q2⟩ := Er hok h3 g1 g3
        simp only [SV.den] at hx
        exact ⟨hc, q1, Xr (vs := [v.den ρ]) (cs' := Qp ρ (pre ++ y' :: post)) ho hsz hx hy (QcO g2) (Qx g2 Yc) hb rfl (by rw [Xm ρ hok, Hl]; simp only [YC]; omega) (by rw [h4]; exact q2) hw⟩
      . rename_i k' o' s ii
        cases hk
        split at h
        . rename_i hs
          obtain ⟨pre, z, y', j, acc1, post, e1, h1, h2, h3, h4⟩ := Ho h
          simp only [Option.some.injEq, Prod.mk.injEq] at h1
          obtain ⟨rfl, rfl⟩ := h1
          subst e1
          obtain ⟨g0, rfl, gi, g1, g2, g3⟩ := QeV (ρ := ρ) h2 hc (Z5.1 hok).2.1
          obtain ⟨q1, q2⟩ := Er hok gi g1 g3
          simp only [SV.den, Nat.eq_of_beq_eq_true hs, Nat.mul_one] at hx
          exact ⟨g0, q1, Xr (vs := [v.den ρ]) (cs' := Qp ρ (pre ++ y' :: post)) ho hsz hx hy (QcO g2) (Qx g2 Yc) hb rfl (by rw [Xm ρ hok, Hl]; simp only [YC]; omega) (by rw [h4, Nat.add_zero]; exact q2) hw⟩
        . cases h
      . cases h
theorem Ev (hT : T.ok P = true) (hw : Qu ops o fl = some true) {t k : Nat} {x y : Operand} {sx v : SV} {c c' : List SV} (hk : K8 sx = some k) (hb : Q8 w (ρ.b k) (Qp ρ c)) (hok : YK c) (ho : o.op = .store t x y) (hx : ev fl x = some (sx.den ρ)) (hy : ev fl y = some (v.den ρ)) (h : Qcq T acc t sx v c = some (c', acc')) (hc : XD acc') : XD acc /\ YK c' /\ DR P ops o N fl w fun _ W => Q8 W (ρ.b k) (Qp ρ c') /\ U4 (ρ.b k) w W :=
  Qcp hT hw (Dy.trans hk) hb hok ho (hx.trans (by rw [Dz])) hy h hc
theorem QeW (hT : T.ok P = true) (hW : WM ρ L0 w0 m d n Γ w) (hw : Qu ops o fl = some true) {t : Nat} {x y : Operand} {sx v : SV} (ho : o.op = .store t x y) (hx : ev fl x = some (sx.den ρ)) (hy : ev fl y = some (v.den ρ)) (h : Qco T m acc t sx v = some (m', acc')) (hc : XD acc') : XD acc /\ DR P ops o N fl w fun _ W => WM ρ L0 w0 m' d n Γ W := by
  unfold Qco at h
  split at h
  . rename_i k hk
    split at h
    . rename_i c hm
      split at h
      . rename_i c' acc1 hs
        simp only [De, Option.some.injEq, Prod.mk.injEq] at h
        obtain ⟨rfl, rfl⟩ := h
        obtain ⟨b1, b2⟩ := hW.cell hm
        obtain ⟨h1, h2, h3⟩ := Ev (N := N) hT hw hk b1 b2 ho hx hy hs hc
        exact ⟨h1, h3.mono fun _ W hq => hW.put hm hq.1 h2 hq.2⟩
      . cases h
    . cases h
  . cases h
end
end Go.Proofs.YtbiboamaigedjaaGreatDoor
namespace Go.Proofs.YtbiboamaigedjaaGreatDoor
open Go.RowKit
set_option linter.unusedVariables false
set_option linter.constructorNameAsVariable false
set_option linter.unusedSimpArgs false

theorem ET (off : Nat) : ∀ (vs : List Value) (k : Nat) (cs : List Value), off + k + vs.length <= cs.length ->
    ((vs.zipIdx k).foldl (fun (cs : Array Value) (p : Value × Nat) => cs.setIfInBounds (off + p.2) p.1) cs.toArray) = (cs.take (off + k) ++ (vs ++ cs.drop (off + k + vs.length))).toArray
  | [], k, cs, h => by simp
  | v :: vs, k, cs, h => by
    simp only [List.length_cons] at h
    rw [List.zipIdx_cons, List.foldl_cons]
    simp only [List.setIfInBounds_toArray]
    rw [ET off vs (k + 1) (cs.set (off + k) v) (by rw [List.length_set]; omega)]
    have hl : (cs.take (off + k)).length = off + k := by rw [List.length_take]; omega
    have e0 : cs.set (off + k) v = cs.take (off + k) ++ v :: cs.drop (off + k + 1) := by rw [List.set_eq_take_append_cons_drop, if_pos (by omega)]
    have e1 : (cs.set (off + k) v).take (off + (k + 1)) = cs.take (off + k) ++ [v] := by
      rw [e0, List.take_append, hl, List.take_of_length_le (by omega), show off + (k + 1) - (off + k) = 1 by omega]
      rfl
    have e2 : (cs.set (off + k) v).drop (off + (k + 1) + vs.length) = cs.drop (off + k + (vs.length + 1)) := by
      rw [e0, List.drop_append, hl, show List.drop (off + (k + 1) + vs.length) (cs.take (off + k)) = [] from List.drop_eq_nil_of_le (by omega), show off + (k + 1) + vs.length - (off + k) = vs.length + 1 by omega]
      rw [List.nil_append, List.drop_succ_cons, List.drop_drop]
      congr 1
      omega
    rw [e1, e2]
    simp only [List.append_assoc, List.cons_append, List.nil_append, List.length_cons]
def EJ (i : TI) (k : Nat) : Option (Nat × Nat) := match Nat.beq i.n 0 with
  | true => Qg8 i.o k
  | false => some (Nat.mul k i.q, i.q)
def U2 (i : TI) (f : SF) : List (Nat × Operand) -> List SV -> List Prop -> Option (List SV × List Prop)
  | [], c, acc => some (c, acc)
  | (k, x) :: l, c, acc => match EJ i k with
    | some (off, sz) => match Uf f x with
      | some v => match U1 acc v with
        | some (vs, acc) => match eqW vs sz with
          | true => Jf c off fun a => match He c (Nat.add off sz) with
            | some b => Qb2 vs b fun vb => Qb2 a vb fun c' => U2 i f l c' acc
            | none => none
          | false => none
        | none => none
      | none => none
    | none => none
theorem Qdh : ∀ {i : TI} {f : SF} {l : List (Nat × Operand)} {c c' : List SV} {acc acc' : List Prop}, U2 i f l c acc = some (c', acc') -> XD acc' -> XD acc := by
  intro i f l
  induction l with
  | nil =>
    intro c c' acc acc' h hc
    simp only [U2, Option.some.injEq, Prod.mk.injEq] at h
    obtain ⟨rfl, rfl⟩ := h
    exact hc
  | cons p l ih =>
    intro c c' acc acc' h hc
    obtain ⟨k, x⟩ := p
    unfold U2 at h
    split at h
    . split at h
      . split at h
        . rename_i vs acc1 hvs
          split at h
          . have tk : ∀ {α : Type} {l : List SV} {s : Nat} {K : List SV -> Option α} {r : α}, Jf l s K = some r -> ∃ t, K t = some r := by
              intro α l
              induction l with
              | nil => intro s K r h; unfold Jf at h; split at h; exact ⟨_, h⟩; cases h
              | cons y l ih => intro s K r h; unfold Jf at h; split at h; exact ⟨_, h⟩; split at h; rw [YP] at h; obtain ⟨t, ht⟩ := ih h; exact ⟨_, ht⟩; (split at h; exact ⟨_, h⟩; cases h)
            obtain ⟨a, h1⟩ := tk h
            split at h1
            . simp only [Gu] at h1
              exact (YR (ρ := QR) hvs (ih h1 hc)).1
            . cases h1
          . cases h
        . cases h
      . cases h
    . cases h
theorem GW {i : TI} {f : SF} {ρ : QS} {place : Nat -> Option (Nat × Nat)} (hp : ∀ k q, EJ i k = some q -> place k = some q) : ∀ {l : List (Nat × Operand)} {c c' : List SV} {acc acc' : List Prop}, YK c -> U2 i f l c acc = some (c', acc') -> XD acc' ->
    XD acc /\ YK c' /\ ∃ vs, evl (QI ρ f) (l.map (·.2)) = some vs /\ Instr.fill place (Qp ρ c).toArray ((l.map (·.1)).zip vs) = some (Qp ρ c').toArray
  | [], c, c', acc, acc', hk, h, hc => by
    simp only [U2, Option.some.injEq, Prod.mk.injEq] at h
    obtain ⟨rfl, rfl⟩ := h
    exact ⟨hc, hk, [], rfl, rfl⟩
  | (k, x) :: l, c, c', acc, acc', hk, h, hc => by
    unfold U2 at h
    split at h
    . rename_i off sz ho
      split at h
      . rename_i v hv
        split at h
        . rename_i vs acc1 hvs
          split at h
          . rename_i hw
            obtain ⟨a, h1, h2, h3, h4⟩ := Je ρ hk h
            split at h1
            . rename_i b hb
              simp only [Gu] at h1
              obtain ⟨d1, d2, d3⟩ := JB ρ hk hb
              have hws := DS hw
              have e : Nat.add off sz = off + sz := rfl
              have d2 : Qp ρ b = (Qp ρ c).drop (off + sz) := d2
              have d3 : off + sz + YC b = YC c := d3
              have key : XD acc1 -> YK vs /\ (v.den ρ).cells.toList = Qp ρ vs /\ XD acc := fun ha => by
                obtain ⟨c0, c1, c2, c3⟩ := YR (ρ := ρ) hvs ha
                exact ⟨c1, c2, c0⟩
              have okvs : ∀ ha : XD acc1, YK (a ++ (vs ++ b)) := fun ha => Z5.2 ⟨h2, Z5.2 ⟨(key ha).1, d1⟩⟩
              have hacc : XD acc1 := Qdh h1 hc
              obtain ⟨_, g1, us, g2, g3⟩ := GW hp (okvs hacc) h1 hc
              obtain ⟨k1, k2, k3⟩ := key hacc
              refine ⟨k3, g1, v.den ρ :: us, ?_, ?_⟩
              . simp only [List.map_cons]
                unfold evl
                rw [QG hv, g2]
              . simp only [List.map_cons, List.zip_cons_cons]
                unfold Instr.fill
                rw [hp k _ ho]
                have hlen : (v.den ρ).cells.size = sz := by rw [<- Array.length_toList, k2, Xm ρ k1, hws]
                have hcl := Xm ρ hk
                simp only
                rw [if_neg (by simp only [hlen, ne_eq, not_true_eq_false, decide_false, Bool.false_or, decide_eq_true_eq, List.size_toArray, hcl, gt_iff_lt, false_or]; omega)]
                have hf := ET off (Qp ρ vs) 0 (Qp ρ c) (by rw [hcl, Xm ρ k1]; omega)
                rw [<- Array.foldl_toList, Array.toList_zipIdx, k2]
                rw [hf]
                simp only [Nat.add_zero]
                rw [Xm ρ k1, hws, <- h3, <- d2, <- Z3, <- Z3]
                exact g3
            . cases h1
          . cases h
        . cases h
      . cases h
    . cases h
section
variable {P : Program} {ops : Array Oper} {o : Oper} {N : Nat} {w w0 : World} {ρ : QS} {T : TT} {acc acc' : List Prop} {L0 : List Nat} {m m' : SM} {d : SD} {n : Nat} {Γ : List QN} {f : SF}
def D9 (T : TT) (f : SF) (acc : List Prop) (t : Nat) (ps : Array (Nat × Operand)) : Option (SV × List Prop) := match T.get t with
  | some i => match i.g with
    | true => match i.z with
      | some z => match ps with
        | ⟨l⟩ => match U2 i f l z acc with
          | some (c, acc) => some (K7 i c, acc)
          | none => none
      | none => none
    | false => none
  | none => none
theorem E0 (hT : T.ok P = true) (hw : Qu ops o (QI ρ f) = some true) {t : Nat} {ps : Array (Nat × Operand)} (ho : o.op = .build t ps) {v : SV} (h : D9 T f acc t ps = some (v, acc')) (hc : XD acc') : XD acc /\ Yl P ops o N ρ (QI ρ f) w v := by
  unfold D9 at h
  split at h
  . rename_i i hi
    split at h
    case h_2 => cases h
    rename_i hg
    split at h
    . rename_i z hz
      split at h
      rename_i l
      split at h
      . rename_i c acc1 hb
        simp only [Option.some.injEq, Prod.mk.injEq] at h
        obtain ⟨rfl, rfl⟩ := h
        obtain ⟨z1, z2, Z, z3, z4⟩ := TT.zero hT hi hz
        have hpl := TT.places hT hi
        have go : ∀ place : Nat -> Option (Nat × Nat), (∀ k q, EJ i k = some q -> place k = some q) -> (∀ ps' : List (Nat × Value), Instr.fill place Z.cells ps' = some (Qp ρ c).toArray -> P.built t ps' = some (Qp ρ c).toArray) -> XD acc /\ Yl P ops o N ρ (QI ρ f) w (K7 i c) := fun place hp hbuilt => by
          obtain ⟨h1, h2, vs, h3, h4⟩ := GW (ρ := ρ) hp z1 hb hc
          refine ⟨h1, ?_⟩
          show DV P ops o N (QI ρ f) w ((K7 i c).den ρ)
          rw [JS]
          refine Xs ho (ps := (l.map (·.1)).zip vs) (by simp only [h3, Option.map_some]) (hbuilt _ ?_) hw
          have : Z.cells = (Qp ρ z).toArray := by rw [<- z4 ρ]
          rw [this]
          exact h4
        unfold Ht at hpl
        cases hI : P.info? t with
        | none => rw [hI] at z3; cases z3
        | some it =>
          rw [hI] at z3
          have z3' : it.zero = some Z := z3
          split at hpl
          . rename_i fields hu
            split at hpl
            . rename_i pl hm
              have e := of_decide_eq_true hpl
              subst e
              have hn : Nat.beq i.n 0 = true := by
                cases hb' : Nat.beq i.n 0 with
                | true => rfl
                | false => have := TT.arr hT hi hb'; rw [hu] at this; cases this
              refine go (fun k => i.o.toArray[k]?) (fun k q hq => ?_) (fun ps' hf => ?_)
              . unfold EJ at hq; rw [hn] at hq; simpa using Dx hq
              . unfold Program.built; simp only [hI, hu, z3', hm]; exact hf
            . cases hpl
          . rename_i nn e hu
            split at hpl
            . rename_i ie he
              simp only [Bool.and_eq_true] at hpl
              have hq := Nat.eq_of_beq_eq_true hpl.1
              refine go (fun k => some (k * ie.size, ie.size)) (fun k q hk => ?_) (fun ps' hf => ?_)
              . unfold EJ at hk
                split at hk
                . have : i.o = [] := by simpa using hpl.2
                  rw [this] at hk; cases hk
                . cases hk; rw [hq]; rfl
              . unfold Program.built; simp only [hI, hu, z3', he]; exact hf
            . cases hpl
          . rename_i hns hna
            obtain ⟨d, hd, hr, _⟩ := Hw (TT.agg hT hi hg)
            cases d <;> simp [TypeDesc.isRow] at hr
            . exact (hna _ _ hd).elim
            . exact (hns _ hd).elim
      . cases h
    . cases h
  . cases h
end
end Go.Proofs.YtbiboamaigedjaaGreatDoor
namespace Go.Proofs.YtbiboamaigedjaaGreatDoor
open Go.RowKit
set_option linter.unusedVariables false
set_option linter.constructorNameAsVariable false
set_option linter.unusedSimpArgs false

/-- A bound that is given, or is not. -/
def QlV (v : Option Value) (d x : Nat) : Prop := (v = none /\ x = d) \/ ∃ K, v = some (.int K (x : Int))
theorem Kh {P : Program} {w : World} {b : Bool} {n c l h : Nat} {lo hi : Option Value} (h1 : QlV lo 0 l) (h2 : QlV hi n h) (hlh : l <= h) (hhc : h <= c) : (Instr.sliceBounds b n c lo hi none).run P w = .ok (l, h, c) w := by
  have g1 : (0 : Int) <= (l : Int) /\ (l : Int) <= (h : Int) := by omega
  have g2 : (0 : Int) <= (h : Int) /\ (h : Int) <= (c : Int) := by omega
  unfold Instr.sliceBounds
  rcases h1 with ⟨rfl, rfl⟩ | ⟨K, rfl⟩ <;> rcases h2 with ⟨rfl, rfl⟩ | ⟨K', rfl⟩ <;>
    simp only [Instr.sliceBound, asIntOf, Sem.run_bind, Sem.run_pure, Result.andThen_ok, if_pos g1, if_pos g2, Int.toNat_natCast]
def BdF (f : Fl) (x : Option Operand) (d n : Nat) : Prop := match x with
  | none => n = d
  | some y => ∃ K, ev f y = some (.int K (n : Int))
section
variable {P : Program} {ops : Array Oper} {o : Oper} {N : Nat} {f : Fl} {w : World}
theorem BdF.bd {a : Act} (ha : Fr N a f) {x : Option Operand} {d n : Nat} (h : BdF f x d n) : QlV (x.map a.eval) d n := by
  cases x with
  | none => exact .inl ⟨rfl, h⟩
  | some y => obtain ⟨K, h⟩ := h; exact .inr ⟨K, by rw [Option.map_some, ha.ev h]⟩
theorem QhN {t e : TypeId} {x : Operand} {lo hi : Option Operand} {n s B o0 l h : Nat} (ho : o.op = .slice t x lo hi none) (hu : P.underlying t = some (.array n e)) (hs : ZV P e s = true) (hx : ev f x = some (.pointer (some ⟨B, o0, none⟩))) (hl : BdF f lo 0 l) (hh : BdF f hi n h) (h1 : l <= h) (h2 : h <= n) (hw : Qu ops o f = some true := by rfl) : DV P ops o N f w (.slice (some ⟨B, Ee n l o0 s, none⟩) (h - l) (n - l)) := fun a ha => by
  have hx := ha.ev hx
  have hb := Kh (P := P) (w := w) (b := false) (hl.bd ha) (hh.bd ha) h1 h2
  obtain ⟨i, hi', hsz⟩ := Uw hs
  refine Qt.pure (Qj ha hw) _ ?_ ⟨rfl, rfl⟩
  unfold execOp
  simp only [ho, Option.map_none, hx, Instr.sliceAt, Sem.run_bind, run_underlying hu, Result.andThen_ok, Instr.sureAddr, hb, Sem.run_pure, sizeOf, typeInfo, run_program, hi']
  simp [hsz, ZS, Addr.add]
  unfold Ee
  split
  . rfl
  . split
    . rename_i h; rw [h]; rfl
    . rfl
theorem QhM {t s B o0 n c l h : Nat} {x : Operand} {lo hi : Option Operand} (ho : o.op = .slice t x lo hi none) (ht : UL P t s = true) (hx : ev f x = some (.slice (some ⟨B, o0, none⟩) n c)) (hl : BdF f lo 0 l) (hh : BdF f hi n h) (h1 : l <= h) (h2 : h <= c) (hw : Qu ops o f = some true := by rfl) :
    DV P ops o N f w (.slice (some ⟨B, Ee c l o0 s, none⟩) (h - l) (c - l)) := fun a ha => by
  obtain ⟨e, hu, hs⟩ := JQ ht
  have hx := ha.ev hx
  have hb := Kh (P := P) (w := w) (b := true) (hl.bd ha) (hh.bd ha) h1 h2
  cases hi : P.info? e with
  | none => rw [hi] at hs; cases hs
  | some q =>
    have hq : q.size = s := by simpa [hi] using hs
    refine Qt.pure (Qj ha hw) _ ?_ ⟨rfl, rfl⟩
    unfold execOp
    simp only [ho, Option.map_none, hx, Instr.sliceAt, Sem.run_bind, run_underlying hu, Result.andThen_ok, Instr.slice, hb, Sem.run_pure, sizeOf, typeInfo, run_program, hi]
    simp [hq, ZS, Addr.add]
    exact Qjg
theorem QlB {t : TypeId} {x : Operand} {lo hi : Option Operand} {s : ByteArray} {l h : Nat} (ho : o.op = .slice t x lo hi none) (ht : P.underlying t = some .string) (hx : ev f x = some (.string s)) (hl : BdF f lo 0 l) (hh : BdF f hi s.size h) (h1 : l <= h) (h2 : h <= s.size) (hw : Qu ops o f = some true := by rfl) : DV P ops o N f w (.string (s.extract l h)) := fun a ha => by
  have hx := ha.ev hx
  have hb := Kh (P := P) (w := w) (b := false) (hl.bd ha) (hh.bd ha) h1 h2
  refine Qt.pure (Qj ha hw) _ ?_ ⟨rfl, rfl⟩
  unfold execOp
  simp only [ho, Option.map_none, hx, Instr.sliceAt, Sem.run_bind, run_underlying ht, Result.andThen_ok, Instr.slice, Option.isSome_none]
  simp [hb, Sem.run_bind]
/-- A place in a slice. -/
theorem DY {t e n c s B o0 o1 : Nat} {x y : Operand} {K : IntKind} {i : Int} (ho : o.op = .indexAddr t x y) (hu : P.underlying t = some (.slice e)) (hs : ZV P e s = true) (hx : ev f x = some (.slice (some ⟨B, o0, none⟩) n c)) (hy : ev f y = some (.int K i)) (h0 : 0 <= i /\ i < n) (h1 : o0 + i.toNat * s = o1) (hw : Qu ops o f = some true := by rfl) : DV P ops o N f w (.pointer (some ⟨B, o1, none⟩)) := fun a ha => by
  have hx := ha.ev hx
  have hy := ha.ev hy
  exact Qt.pure (Qj ha hw) _ (by unfold execOp; simp only [ho, hx, hy, Sem.run_bind, QaR hu (Vz hs) B o0 K i h0.1 h0.2, Result.andThen_ok, h1]; rfl) ⟨rfl, rfl⟩
end
theorem GE {P : Program} {t e s : Nat} (hu : P.underlying t = some (.slice e)) (hs : ZV P e s = true) : UL P t s = true := by
  unfold UL
  rw [hu]
  exact hs
/-- A number that is known, as any other. -/
def unN : Option SV -> Option SV
  | some (.lit K c) => some (.i K (c : Int))
  | r => r
theorem QiC {r : Option SV} {v : SV} (h : unN r = some v) (ρ : QS) : ∃ u, r = some u /\ u.den ρ = v.den ρ := by
  unfold unN at h
  split at h
  . cases h; exact ⟨_, rfl, by simp only [SV.den]⟩
  . exact ⟨v, h, rfl⟩
theorem HZ {ρ : QS} {f : SF} {x : Operand} {v : SV} (h : unN (Uf f x) = some v) : ev (QI ρ f) x = some (v.den ρ) := by
  obtain ⟨u, h1, h2⟩ := QiC h ρ
  rw [QG h1, h2]
/-- A bound, by symbols. -/
def bdS (f : SF) (d : Nat) (acc : List Prop) : Option Operand -> Option (Nat × List Prop)
  | none => some (d, acc)
  | some y => match y with
    | .const (.int _ (.ofNat c)) => some (c, acc)
    | y => match Uf f y with
      | some (.i _ n) => some (n.toNat, (0 <= n) :: acc)
      | some (.lit _ c) => some (c, acc)
      | _ => none
theorem Ug {ρ : QS} {f : SF} {d n : Nat} {acc acc' : List Prop} {x : Option Operand} (h : bdS f d acc x = some (n, acc')) (hc : XD acc') : XD acc /\ BdF (QI ρ f) x d n := by
  unfold bdS at h
  split at h
  . simp only [Option.some.injEq, Prod.mk.injEq] at h
    obtain ⟨rfl, rfl⟩ := h
    exact ⟨hc, rfl⟩
  . split at h
    . simp only [Option.some.injEq, Prod.mk.injEq] at h
      obtain ⟨rfl, rfl⟩ := h
      exact ⟨hc, _, rfl⟩
    . split at h
      . rename_i K z hy
        simp only [Option.some.injEq, Prod.mk.injEq] at h
        obtain ⟨rfl, rfl⟩ := h
        have h1 := QG (ρ := ρ) hy
        simp only [SV.den] at h1
        exact ⟨hc.2, K, by rw [Int.toNat_of_nonneg hc.1]; exact h1⟩
      . rename_i K z hy
        simp only [Option.some.injEq, Prod.mk.injEq] at h
        obtain ⟨rfl, rfl⟩ := h
        have h1 := QG (ρ := ρ) hy
        simp only [SV.den] at h1
        exact ⟨hc, K, h1⟩
      . cases h
/-- Where a part begins. -/
def Qfk (c l o s : Nat) : Nat := match Nat.beq c l with
  | true => o
  | false => Nat.add o (Nat.mul l s)
theorem Hu (c l o s : Nat) : Qfk c l o s = Ee c l o s := by
  unfold Qfk Ee
  cases h : Nat.beq c l with
  | true => rw [if_pos (Nat.eq_of_beq_eq_true h)]
  | false => rw [if_neg (Nat.ne_of_beq_eq_false h)]; rfl
theorem Qbk (c l a b s : Nat) : a + Ee c l b s = Ee c l (a + b) s := by
  unfold Ee
  split <;> omega
def QiM (T : TT) (f : SF) (acc : List Prop) (t : Nat) (x : Operand) (lo hi : Option Operand) : Option (SV × List Prop) := match T.get t with
  | none => none
  | some i => match Uf f x with
    | some (.p k o) => match Nat.beq i.n 0 with
      | true => none
      | false => match bdS f 0 acc lo with
        | none => none
        | some (l, acc) => match bdS f i.n acc hi with
          | none => none
          | some (h, acc) => some (.y k (Qfk i.n l o i.q) (Nat.sub h l) (Nat.sub i.n l), (l <= h /\ h <= i.n) :: acc)
    | some (.q k o) => match Nat.beq i.n 0 with
      | true => none
      | false => match bdS f 0 acc lo with
        | none => none
        | some (l, acc) => match bdS f i.n acc hi with
          | none => none
          | some (h, acc) => some (.z k (Qfk i.n l o i.q) (Nat.sub h l) (Nat.sub i.n l), (l <= h /\ h <= i.n) :: acc)
    | some (.y k o n c) => match Nat.beq i.y 2 with
      | false => none
      | true => match T.get i.e with
        | none => none
        | some j => match bdS f 0 acc lo with
          | none => none
          | some (l, acc) => match bdS f n acc hi with
            | none => none
            | some (h, acc) => some (.y k (Qfk c l o j.s) (Nat.sub h l) (Nat.sub c l), (l <= h /\ h <= c) :: acc)
    | some (.z k o n c) => match Nat.beq i.y 2 with
      | false => none
      | true => match T.get i.e with
        | none => none
        | some j => match bdS f 0 acc lo with
          | none => none
          | some (l, acc) => match bdS f n acc hi with
            | none => none
            | some (h, acc) => some (.z k (Qfk c l o j.s) (Nat.sub h l) (Nat.sub c l), (l <= h /\ h <= c) :: acc)
    | some (.s b) => match Nat.beq i.y 1 with
      | false => none
      | true => match bdS f 0 acc lo with
        | none => none
        | some (l, acc) => match bdS f b.size acc hi with
          | none => none
          | some (h, acc) => some (.s (b.extract l h), (l <= h /\ h <= b.size) :: acc)
    | _ => none
theorem TT.elem {P : Program} {T : TT} (hT : T.ok P = true) {t : Nat} {i : TI} (hi : T.get t = some i) (hn : Nat.beq i.n 0 = false) : ZV P i.e i.q = true := by
  have hu := TT.arr hT hi hn
  have hp := TT.places hT hi
  unfold Ht at hp
  rw [hu] at hp
  simp only at hp
  split at hp
  . rename_i ie he
    simp only [Bool.and_eq_true] at hp
    unfold ZV
    rw [he]
    simpa using Nat.eq_of_beq_eq_true hp.1
  . cases hp
section
variable {P : Program} {ops : Array Oper} {o : Oper} {N : Nat} {w : World} {ρ : QS} {T : TT} {acc acc' : List Prop} {f : SF}
theorem QdB (hT : T.ok P = true) (hw : Qu ops o (QI ρ f) = some true) {t : Nat} {x : Operand} {lo hi : Option Operand} (ho : o.op = .slice t x lo hi none) {v : SV} (h : QiM T f acc t x lo hi = some (v, acc')) (hc : XD acc') : XD acc /\ Yl P ops o N ρ (QI ρ f) w v := by
  unfold QiM at h
  split at h
  . cases h
  . rename_i i hi
    split at h
    . rename_i k o' hx
      have h1 := QG (ρ := ρ) hx
      simp only [SV.den] at h1
      split at h
      . cases h
      . rename_i hn
        split at h
        . cases h
        . rename_i l acc1 hl
          split at h
          . cases h
          . rename_i hh acc2 hhi
            simp only [Option.some.injEq, Prod.mk.injEq] at h
            obtain ⟨rfl, rfl⟩ := h
            obtain ⟨⟨g1, g2⟩, g3⟩ := hc
            obtain ⟨g4, b2⟩ := Ug (ρ := ρ) hhi g3
            obtain ⟨g5, b1⟩ := Ug (ρ := ρ) hl g4
            exact ⟨g5, (QhN ho (TT.arr hT hi hn) (TT.elem hT hi hn) h1 b1 b2 g1 g2 hw).eq (by simp only [SV.den, Hu]; rfl)⟩
    . rename_i k o' hx
      have h1 := QG (ρ := ρ) hx
      simp only [SV.den] at h1
      split at h
      . cases h
      . rename_i hn
        split at h
        . cases h
        . rename_i l acc1 hl
          split at h
          . cases h
          . rename_i hh acc2 hhi
            simp only [Option.some.injEq, Prod.mk.injEq] at h
            obtain ⟨rfl, rfl⟩ := h
            obtain ⟨⟨g1, g2⟩, g3⟩ := hc
            obtain ⟨g4, b2⟩ := Ug (ρ := ρ) hhi g3
            obtain ⟨g5, b1⟩ := Ug (ρ := ρ) hl g4
            exact ⟨g5, (QhN ho (TT.arr hT hi hn) (TT.elem hT hi hn) h1 b1 b2 g1 g2 hw).eq (by simp only [SV.den, Hu, Qbk]; rfl)⟩
    . rename_i k o' n c hx
      have h1 := QG (ρ := ρ) hx
      simp only [SV.den] at h1
      split at h
      . cases h
      . rename_i hy
        split at h
        . cases h
        . rename_i j hj
          split at h
          . cases h
          . rename_i l acc1 hl
            split at h
            . cases h
            . rename_i hh acc2 hhi
              simp only [Option.some.injEq, Prod.mk.injEq] at h
              obtain ⟨rfl, rfl⟩ := h
              obtain ⟨⟨g1, g2⟩, g3⟩ := hc
              obtain ⟨g4, b2⟩ := Ug (ρ := ρ) hhi g3
              obtain ⟨g5, b1⟩ := Ug (ρ := ρ) hl g4
              exact ⟨g5, (QhM ho (GE (TT.slc hT hi hy) (TT.size hT hj)) h1 b1 b2 g1 g2 hw).eq (by simp only [SV.den, Hu]; rfl)⟩
    . rename_i k o' n c hx
      have h1 := QG (ρ := ρ) hx
      simp only [SV.den] at h1
      split at h
      . cases h
      . rename_i hy
        split at h
        . cases h
        . rename_i j hj
          split at h
          . cases h
          . rename_i l acc1 hl
            split at h
            . cases h
            . rename_i hh acc2 hhi
              simp only [Option.some.injEq, Prod.mk.injEq] at h
              obtain ⟨rfl, rfl⟩ := h
              obtain ⟨⟨g1, g2⟩, g3⟩ := hc
              obtain ⟨g4, b2⟩ := Ug (ρ := ρ) hhi g3
              obtain ⟨g5, b1⟩ := Ug (ρ := ρ) hl g4
              exact ⟨g5, (QhM ho (GE (TT.slc hT hi hy) (TT.size hT hj)) h1 b1 b2 g1 g2 hw).eq (by simp only [SV.den, Hu, Qbk]; rfl)⟩
    . rename_i b hx
      have h1 := QG (ρ := ρ) hx
      simp only [SV.den] at h1
      split at h
      . cases h
      . rename_i hy
        split at h
        . cases h
        . rename_i l acc1 hl
          split at h
          . cases h
          . rename_i hh acc2 hhi
            simp only [Option.some.injEq, Prod.mk.injEq] at h
            obtain ⟨rfl, rfl⟩ := h
            obtain ⟨⟨g1, g2⟩, g3⟩ := hc
            obtain ⟨g4, b2⟩ := Ug (ρ := ρ) hhi g3
            obtain ⟨g5, b1⟩ := Ug (ρ := ρ) hl g4
            exact ⟨g5, (QlB ho (TT.str hT hi hy) h1 b1 b2 g1 g2 hw).eq (by simp only [SV.den])⟩
    . cases h
/-- An array of a slice's cells. -/
def QiQ (T : TT) (f : SF) (acc : List Prop) (t : Nat) (x : Operand) : Option (SV × List Prop) := match T.get t with
  | none => none
  | some i => match Nat.beq i.n 0 with
    | true => none
    | false => match Uf f x with
      | some (.y k o l _) => some (.p k o, (i.n <= l) :: acc)
      | some (.z k o l _) => some (.q k o, (i.n <= l) :: acc)
      | _ => none
theorem QhP {t e n B o0 l c : Nat} {x : Operand} {f : Fl} (ho : o.op = .sliceToArrayPointer t x) (hu : P.underlying t = some (.array n e)) (hx : ev f x = some (.slice (some ⟨B, o0, none⟩) l c)) (h : n <= l) (hw : Qu ops o f = some true := by rfl) : DV P ops o N f w (.pointer (some ⟨B, o0, none⟩)) := fun a ha => by
  have hx := ha.ev hx
  refine Qt.pure (Qj ha hw) _ ?_ ⟨rfl, rfl⟩
  unfold execOp
  simp only [ho, hx, Instr.arrayAt, Sem.run_bind, run_underlying hu, Result.andThen_ok, if_neg (show ¬ l < n by omega), Sem.run_pure]
theorem QdF (hT : T.ok P = true) (hw : Qu ops o (QI ρ f) = some true) {t : Nat} {x : Operand} (ho : o.op = .sliceToArrayPointer t x) {v : SV} (h : QiQ T f acc t x = some (v, acc')) (hc : XD acc') : XD acc /\ Yl P ops o N ρ (QI ρ f) w v := by
  unfold QiQ at h
  split at h
  . cases h
  . rename_i i hi
    split at h
    . cases h
    . rename_i hn
      split at h
      . rename_i k o' l c hx
        have h1 := QG (ρ := ρ) hx
        simp only [SV.den] at h1
        simp only [Option.some.injEq, Prod.mk.injEq] at h
        obtain ⟨rfl, rfl⟩ := h
        exact ⟨hc.2, (QhP ho (TT.arr hT hi hn) h1 hc.1 hw).eq (by simp only [SV.den])⟩
      . rename_i k o' l c hx
        have h1 := QG (ρ := ρ) hx
        simp only [SV.den] at h1
        simp only [Option.some.injEq, Prod.mk.injEq] at h
        obtain ⟨rfl, rfl⟩ := h
        exact ⟨hc.2, (QhP ho (TT.arr hT hi hn) h1 hc.1 hw).eq (by simp only [SV.den])⟩
      . cases h
/-- A slice that is written out. -/
theorem QhU {t len : Nat} {parts : Array (Nat × Operand)} {e : TypeId} {i : TypeInfo} {Z : Value} {ps : List (Nat × Value)} {cs : List Value} {f : Fl} (ho : o.op = .buildSlice t len parts) (hu : P.underlying t = some (.slice e)) (hi : P.info? e = some i) (hz : i.zero = some Z)
    (hp : (evl f (parts.toList.map (·.2))).map (fun vs => (parts.toList.map (·.1)).zip vs) = some ps) (hlen : len * i.size <= 16777216)
    (hf : Instr.fill (fun k => some (k * i.size, i.size)) (if len * i.size = 0 then #[] else (Array.range (len * i.size)).map (Z.cells[· % Z.cells.size]!)) ps = some cs.toArray) (hw : Qu ops o f = some true := by rfl) : DR P ops o N f w (fun u W => u = .slice (some ⟨w.heap.size, 0, none⟩) len len /\ Q8 W w.heap.size cs /\ Below w.heap.size w W /\ w.heap.size < W.heap.size) := fun a ha => by
  have key : (parts.map fun (i, x) => (i, a.eval x)).toList = ps := by
    cases hq : evl f (parts.toList.map (·.2)) with
    | none => rw [hq] at hp; cases hp
    | some vs =>
      rw [hq] at hp
      have h1 := ha.evl hq
      simp only [Option.map_some, Option.some.injEq] at hp
      rw [<- hp, <- h1, Array.toList_map]
      clear hp h1 hq ho
      induction parts.toList with
      | nil => rfl
      | cons p l ih => simp only [List.map_cons, List.zip_cons_cons, List.cons.injEq, true_and]; exact ih
  have hrun := Vt (w := w) hu hi hz len (parts.map fun (i, x) => (i, a.eval x)) hlen (cs := cs.toArray) (by rw [key]; exact hf)
  exact Qt.of_wp (Qj ha hw) fun K hK => by
    unfold Oper.wp execOp
    simp only [ho, Sem.run_bind, hrun, Sem.run_pure, Result.andThen_ok]
    obtain ⟨n1, n2, n3⟩ := KY w e cs
    exact hK _ _ ⟨rfl, n1, n2, n3⟩
def Qi1 {α : Type} (l : List SV) : Nat -> (List SV -> α) -> α
  | 0, K => K []
  | n + 1, K => Qi1 l n fun r => Qb2 l r K
theorem QdJ {α : Type} {l : List SV} : ∀ {n : Nat} {K : List SV -> α}, Qi1 l n K = K (List.replicate n l).flatten
  | 0, K => rfl
  | n + 1, K => by unfold Qi1; rw [QdJ, Gu]; rfl
theorem Du {l : List SV} (h : YK l) : ∀ n : Nat, YK (List.replicate n l).flatten
  | 0 => trivial
  | n + 1 => Z5.2 ⟨h, Du h n⟩
theorem FU (ρ : QS) (l : List SV) : ∀ n : Nat, Qp ρ (List.replicate n l).flatten = (List.replicate n (Qp ρ l)).flatten
  | 0 => by simp only [List.replicate, List.flatten_nil, Qp]
  | n + 1 => by
    rw [List.replicate_succ, List.replicate_succ, List.flatten_cons, List.flatten_cons, Z3, FU ρ l n]
def Qjs (T : TT) (f : SF) (acc : List Prop) (t len : Nat) (ps : List (Nat × Operand)) : Option (List SV × List Prop) := match T.get t with
  | none => none
  | some i => match Nat.beq i.y 2 with
    | false => none
    | true => match T.get i.e with
      | none => none
      | some j => match j.z with
        | none => none
        | some z => match Nat.ble (Nat.mul len j.s) 16777216 with
          | false => none
          | true => match Nat.ble 1 len with
            | false => match ps with
              | [] => some ([], acc)
              | _ => none
            | true => match Nat.ble 1 j.s with
              | false => none
              | true => match eqW z j.s with
                | false => none
                | true => Qi1 z len fun c => U2 { s := 0, g := true, n := len, q := j.s } f ps c acc
theorem Qd0 (hT : T.ok P = true) (hw : Qu ops o (QI ρ f) = some true) {t len : Nat} {ps : List (Nat × Operand)} (ho : o.op = .buildSlice t len ⟨ps⟩) {c : List SV} (h : Qjs T f acc t len ps = some (c, acc')) (hc : XD acc') : XD acc /\ YK c /\ DR P ops o N (QI ρ f) w (fun u W => u = .slice (some ⟨w.heap.size, 0, none⟩) len len /\ Q8 W w.heap.size (Qp ρ c) /\ Below w.heap.size w W /\ w.heap.size < W.heap.size) := by
  unfold Qjs at h
  split at h
  . cases h
  . rename_i i hi
    split at h
    . cases h
    . rename_i hy
      split at h
      . cases h
      . rename_i j hj
        split at h
        . cases h
        . rename_i z hz
          split at h
          . cases h
          . rename_i hb
            have hb := Nat.le_of_ble_eq_true hb
            split at h
            . rename_i hl
              have hl0 : len = 0 := by
                cases len with
                | zero => rfl
                | succ k => cases hl
              subst hl0
              split at h
              . simp only [Option.some.injEq, Prod.mk.injEq] at h
                obtain ⟨rfl, rfl⟩ := h
                obtain ⟨z1, z2, Z, z3, z4⟩ := TT.zero hT hj hz
                obtain ⟨ti, hti, hsz⟩ := Uw (TT.size hT hj)
                rw [hti] at z3
                simp only [Option.bind_some] at z3
                exact ⟨hc, trivial, QhU (ps := []) (cs := []) ho (TT.slc hT hi hy) hti z3 rfl (by omega) (by simp [Instr.fill]) hw⟩
              . cases h
            . rename_i hl
              have hl := Nat.le_of_ble_eq_true hl
              split at h
              . cases h
              . rename_i hs
                have hs := Nat.le_of_ble_eq_true hs
                split at h
                . cases h
                rename_i hzw
                have hzw := DS hzw
                rw [QdJ] at h
                obtain ⟨z1, z2, Z, z3, z4⟩ := TT.zero hT hj hz
                obtain ⟨ti, hti, hsz⟩ := Uw (TT.size hT hj)
                rw [hti] at z3
                simp only [Option.bind_some] at z3
                have hn0 : Nat.beq len 0 = false := by
                  cases hq : Nat.beq len 0 with
                  | false => rfl
                  | true => have := Nat.eq_of_beq_eq_true hq; omega
                obtain ⟨g1, g2, vs, g3, g4⟩ := GW (ρ := ρ) (place := fun k => some (k * j.s, j.s)) (fun k q hq => by
                  simp only [EJ, hn0, Option.some.injEq] at hq
                  rw [<- hq]; rfl) (Du z1 len) h hc
                refine ⟨g1, g2, QhU (ps := (ps.map (·.1)).zip vs) ho (TT.slc hT hi hy) hti z3 (by show Option.map _ (evl (QI ρ f) (ps.map (·.2))) = _; rw [g3]; rfl) (by rw [hsz]; exact hb) ?_ hw⟩
                have hm : len * j.s <= 16777216 := hb
                have hpos : 0 < len * j.s := Nat.mul_pos hl hs
                have hzl : Z.cells.size = j.s := by
                  have e1 : Z.cells.toList.length = YC z := by rw [z4 ρ, Xm ρ z1]
                  rw [Array.length_toList] at e1
                  rw [e1, hzw]
                rw [hsz, if_neg (by omega)]
                have hmr := EM (Z := Z) (r := Qp ρ z) (z4 ρ) hzl hs len
                unfold madeCells at hmr
                rw [hmr, <- FU]
                exact g4
theorem QhT {x y : Operand} {t t' : TypeId} {B X o1 o2 n c m c' : Nat} {cs ys : List Value} {f : Fl} (ho : o.op = .call { callee := .builtin .copy, args := #[x, y], argTypes := #[t, t'] }) (ht : UL P t 1 = true) (hx : ev f x = some (.slice (some ⟨B, o1, none⟩) n c)) (hy : ev f y = some (.slice (some ⟨X, o2, none⟩) m c')) (hb : Q8 w B cs) (hr : w.rangeAt X o2 ys) (hm : ys.length = Nat.min m n) (hn : o1 + Nat.min m n <= cs.length) (h1 : ∀ v ∈ ys, v.oneCell' = true) (hw : Qu ops o f = some true := by rfl) :
    DR P ops o N f w fun v W => v = .int .i64 ((Nat.min m n : Nat) : Int) /\ Q8 W B (cs.take o1 ++ (ys ++ cs.drop (o1 + Nat.min m n))) /\ U4 B w W := fun a ha => by
  have hx := ha.ev hx
  have hy := ha.ev hy
  obtain ⟨e, hu, hs⟩ := JQ ht
  obtain ⟨tt, hb'⟩ := hb
  cases hi : P.info? e with
  | none => rw [hi] at hs; cases hs
  | some q =>
    have hq : q.size = 1 := by simpa [hi] using hs
    generalize hk : Nat.min m n = k at *
    have hf := run_firstCells_some (P := P) w q.size k ⟨X, o2, none⟩ m c' ys (by rw [hq]; omega) (fun j u hj => by rw [ZS]; exact hr j u hj)
    have hst := run_storeCells_at P B o1 tt ys 0 _ w hb' (by simp; omega) h1
    simp only [Nat.add_zero] at hst
    rw [hm] at hst
    exact Qt.of_wp (Qj ha hw) fun K hK => by
      unfold Oper.wp execOp
      simp only [ho, resolve, invoke, builtin, Sem.run_bind, Sem.run_pure, Result.andThen_ok, List.map_toArray, List.map_cons, List.map_nil, hx, hy, Builtin.copy_, run_underlying hu, List.getElem?_toArray, List.getElem?_cons_zero, List.getElem?_cons_succ, Builtin.lenOf, hk, sizeOf, typeInfo, run_program, hi, hf, hst]
      have hfin : Q8 (w.setRow B (cs.toArray.toList.take o1 ++ ys ++ cs.toArray.toList.drop (o1 + k)).toArray) B (cs.take o1 ++ (ys ++ cs.drop (o1 + k))) := ⟨tt, by rw [setRow_heap w B _ _ tt (0, 0) hb']; simp⟩
      exact hK _ _ ⟨rfl, hfin, VZ w B _⟩
/-- A copy among arrays of numbers: to which block, what it holds then, how many, which block is read. -/
def D1 (T : TT) (f : SF) (m : SM) (acc : List Prop) (t : Nat) (x y : Operand) : Option (Nat × Cl × Nat × Nat × List Prop) := match T.get t with
  | none => none
  | some i => match Nat.beq i.y 2 with
    | false => none
    | true => match T.get i.e with
      | none => none
      | some j => match Nat.beq j.s 1 with
        | false => none
        | true => match Uf f x with
          | some (.y k o1 l _) => match Uf f y with
            | some (.y k' o2 l' _) => match ZI m k with
              | some [.a K zs n] => match ZI m k' with
                | some [.a K' ys n'] => some (k, [.a K (zs.take o1 ++ ((ys.drop o2).take (Nat.min l' l) ++ zs.drop (Nat.add o1 (Nat.min l' l)))) n], Nat.min l' l, k', (K' = K /\ o1 + Nat.min l' l <= n /\ o2 + Nat.min l' l <= n') :: acc)
                | _ => none
              | _ => none
            | _ => none
          | _ => none
theorem Qet {L0 : List Nat} {w0 : World} {m : SM} {d : SD} {n0 : Nat} {Γ : List QN} (hT : T.ok P = true) (hW : WM ρ L0 w0 m d n0 Γ w) (hw : Qu ops o (QI ρ f) = some true) {t t' : Nat} {x y : Operand} (ho : o.op = .call { callee := .builtin .copy, args := #[x, y], argTypes := #[t, t'] }) {k q r : Nat} {c' : Cl} (h : D1 T f m acc t x y = some (k, c', q, r, acc')) (hc : XD acc') : XD acc /\ YK c' /\ (∃ c0, ZI m k = some c0) /\ DR P ops o N (QI ρ f) w (fun u W => u = .int .i64 (q : Int) /\ Q8 W (ρ.b k) (Qp ρ c') /\ U4 (ρ.b k) w W) := by
  unfold D1 at h
  split at h
  . cases h
  . rename_i i hi
    split at h
    . cases h
    . rename_i hy
      split at h
      . cases h
      . rename_i j hj
        split at h
        . cases h
        . rename_i hs
          have hs := Nat.eq_of_beq_eq_true hs
          split at h
          . rename_i k1 o1 l c1 hx
            split at h
            . rename_i k2 o2 l' c2 hyy
              split at h
              . rename_i K zs n hk1
                split at h
                . rename_i K' ys n' hk2
                  simp only [Option.some.injEq, Prod.mk.injEq] at h
                  obtain ⟨rfl, rfl, rfl, rfl, rfl⟩ := h
                  obtain ⟨⟨rfl, g1, g2⟩, g3⟩ := hc
                  have h1 := QG (ρ := ρ) hx
                  have h2 := QG (ρ := ρ) hyy
                  simp only [SV.den] at h1 h2
                  obtain ⟨b1, b2⟩ := hW.cell hk1
                  obtain ⟨b3, b4⟩ := hW.cell hk2
                  have z1 : zs.length = n := b2.1
                  have z2 : ys.length = n' := b4.1
                  simp only [Qp, SV.cs, List.append_nil] at b1 b3
                  have hsl := GE (TT.slc hT hi hy) (TT.size hT hj)
                  rw [hs] at hsl
                  refine ⟨g3, ⟨?_, trivial⟩, ⟨_, hk1⟩, (QhT (ys := (((ys.drop o2).take (Nat.min l' l)).map (Value.int K'))) ho hsl h1 h2 b1 ?_ ?_ ?_ ?_ hw).mono fun u W ⟨e1, e2, e3⟩ => ⟨e1, ?_, e3⟩⟩
                  . show (zs.take o1 ++ ((ys.drop o2).take (Nat.min l' l) ++ zs.drop (Nat.add o1 (Nat.min l' l)))).length = n
                    have e : Nat.add o1 (Nat.min l' l) = o1 + Nat.min l' l := rfl
                    simp only [e, List.length_append, List.length_take, List.length_drop]
                    omega
                  . have := UP b3.range o2 (Nat.min l' l)
                    rw [Nat.zero_add] at this
                    rw [List.map_take, List.map_drop]
                    exact this
                  . rw [List.length_map, List.length_take, List.length_drop]; omega
                  . rw [List.length_map]; omega
                  . intro v hv
                    obtain ⟨z, _, rfl⟩ := List.mem_map.1 hv
                    rfl
                  . simp only [Qp, SV.cs, List.append_nil, List.map_append]
                    rw [List.map_take (l := zs), List.map_drop (l := zs)]
                    exact e2
                . cases h
              . cases h
            . cases h
          . cases h
end
end Go.Proofs.YtbiboamaigedjaaGreatDoor
namespace Go.Proofs.YtbiboamaigedjaaGreatDoor
open Go.RowKit
set_option linter.unusedVariables false
set_option linter.constructorNameAsVariable false
set_option linter.unusedSimpArgs false

/-- A constant index. -/
def cix : Operand -> Option Nat
  | .const (.int _ (.ofNat c)) => some c
  | _ => none
def Qdf (f : SF) (y : Operand) : Option Nat := match cix y with
  | some c => some c
  | none => match Uf f y with
    | some (.lit _ c) => some c
    | _ => none
theorem Gi {ρ : QS} {f : SF} {y : Operand} {c : Nat} (h : Qdf f y = some c) : ∃ K, ev (QI ρ f) y = some (.int K (c : Int)) := by
  unfold Qdf at h
  split at h
  . rename_i c' hc
    cases h
    unfold cix at hc
    split at hc
    . cases hc; exact ⟨_, rfl⟩
    . cases hc
  . split at h
    . rename_i K c' hy
      cases h
      have := QG (ρ := ρ) hy
      simp only [SV.den] at this
      exact ⟨K, this⟩
    . cases h
def Qjx (T : TT) (f : SF) (acc : List Prop) (t : Nat) (x y : Operand) : Option (SV × List Prop) := match T.get t with
  | some i => match Nat.beq i.n 0 with
    | true => match Nat.beq i.y 2 with
      | false => none
      | true => match T.get i.e with
        | none => none
        | some j => match Uf f x with
          | some (.y k o l _) => match Qdf f y with
            | some c => some (.p k (Nat.add o (Nat.mul c j.s)), (c < l) :: acc)
            | none => match Uf f y with
              | some (.i _ n) => some (.x k o j.s n, (0 <= n /\ n < (l : Int)) :: acc)
              | _ => none
          | some (.z k o l _) => match Qdf f y with
            | some c => some (.q k (Nat.add o (Nat.mul c j.s)), (c < l) :: acc)
            | none => match Uf f y with
              | some (.i _ n) => some (.r k o j.s n, (0 <= n /\ n < (l : Int)) :: acc)
              | _ => none
          | _ => none
    | false => match Uf f x with
      | some (.p k o) => match Qdf f y with
        | some c => match Nat.blt c i.n with
          | true => some (.p k (Nat.add o (Nat.mul c i.q)), acc)
          | false => none
        | none => match Uf f y with
          | some (.i _ n) => some (.x k o i.q n, (0 <= n /\ n < (i.n : Int)) :: acc)
          | _ => none
      | some (.q k o) => match Qdf f y with
        | some c => match Nat.blt c i.n with
          | true => some (.q k (Nat.add o (Nat.mul c i.q)), acc)
          | false => none
        | none => match Uf f y with
          | some (.i _ n) => some (.r k o i.q n, (0 <= n /\ n < (i.n : Int)) :: acc)
          | _ => none
      | _ => none
  | none => none
def ixO (T : TT) (f : SF) (acc : List Prop) (t : Nat) (x y : Operand) : Option (SV × List Prop) := match T.get t with
  | some i => match unN (Uf f y) with
    | some (.i _ n) => match Uf f x with
      | some (.s b) => match Nat.beq i.y 1 with
        | true => some (.i .u8 (atS b n.toNat), (0 <= n /\ n < (b.size : Int)) :: acc)
        | false => none
      | some (.a K zs z) => match Nat.beq i.n 0 with
        | true => none
        | false => match T.get i.e with
          | some j => match j.g with
            | true => none
            | false => some (.i K (zs.getD n.toNat 0), (0 <= n /\ n < (i.n : Int) /\ zs.length = i.n) :: acc)
          | none => none
      | some (.g l) => match Nat.beq i.n 0 with
        | true => none
        | false => match T.get i.e with
          | some j => match j.g with
            | true => none
            | false => match Qdf f y with
              | some c => match Nat.blt c i.n with
                | true => match FL l with
                  | true => none
                  | false => match nth l c with
                    | some v => some (v, acc)
                    | none => none
                | false => none
              | none => none
          | none => none
      | _ => none
    | _ => none
  | none => none
def QjA (f : SF) (acc : List Prop) (fn : Fn) (first caps : Array Operand) : Option (SV × List Prop) := match fn with
  | .func F => match first with
    | ⟨[]⟩ => match caps with
      | ⟨l⟩ => match DQ f l with
        | some vs => some (.f F vs, acc)
        | none => none
    | _ => none
  | _ => none
def Qfq (f : SF) (m : SM) (d : SD) (n : Nat) (c : List SV) (acc : List Prop) : Option (SV × SM × Nat × List Prop) := match wfF n f with
  | true => match HR n m with
    | true => match Hk n d with
      | true => match VU n c with
        | true => some (.p n 0, (n, c) :: m, Nat.succ n, acc)
        | false => none
      | false => none
    | false => none
  | false => none
def Qhb (f : SF) (m : SM) (d : SD) (n : Nat) (c : List SV) (l : Nat) (acc : List Prop) : Option (SV × SM × Nat × List Prop) := match wfF n f with
  | true => match HR n m with
    | true => match Hk n d with
      | true => match VU n c with
        | true => some (.y n 0 l l, (n, c) :: m, Nat.succ n, acc)
        | false => none
      | false => none
    | false => none
  | false => none
/-- One operation: what it yields, and what the own blocks hold behind it. -/
def Qln (T : TT) (md : Bool) (f : SF) (m : SM) (d : SD) (n : Nat) (acc : List Prop) : Op -> Option (SV × SM × Nat × List Prop)
  | .load t x => match Uf f x with
    | some sx => match FE T m d acc t sx with
      | some (v, acc) => some (v, m, n, acc)
      | none => none
    | none => none
  | .store t x y => match Uf f x with
    | some sx => match Uf f y with
      | some sy => match Qco T m acc t sx sy with
        | some (m, acc) => some (.u, m, n, acc)
        | none => none
      | none => none
    | none => none
  | .box t x => match Uf f x with
    | some sx => match U1 acc sx with
      | some (c, acc) => Qfq f m d n c acc
      | none => none
    | none => none
  | .alloc t => match T.get t with
    | some i => match i.z with
      | some c => Qfq f m d n c acc
      | none => none
    | none => none
  | .indexAddr t x y => match Qjx T f acc t x y with
    | some (v, acc) => some (v, m, n, acc)
    | none => none
  | .index t x y => match ixO T f acc t x y with
    | some (v, acc) => some (v, m, n, acc)
    | none => none
  | .makeFunc fn first caps => match QjA f acc fn first caps with
    | some (v, acc) => some (v, m, n, acc)
    | none => none
  | .slice t x lo hi none => match QiM T f acc t x lo hi with
    | some (v, acc) => some (v, m, n, acc)
    | none => none
  | .sliceToArrayPointer t x => match QiQ T f acc t x with
    | some (v, acc) => some (v, m, n, acc)
    | none => none
  | .buildSlice t len ⟨ps⟩ => match Qjs T f acc t len ps with
    | some (c, acc) => Qhb f m d n c len acc
    | none => none
  | .call { callee := .builtin .copy, args := ⟨[x, y]⟩, argTypes := ⟨[t, _]⟩ } => match D1 T f m acc t x y with
    | some (k, c, q, _, acc) => Qgk k c m fun m' => some (.i .i64 (q : Int), m', n, acc)
    | none => none
  | .build t ps => match D9 T f acc t ps with
    | some (v, acc) => some (v, m, n, acc)
    | none => none
  | .move x => match Uf f x with
    | some v => some (v, m, n, acc)
    | none => none
  | .assign x => match Uf f x with
    | some v => some (v, m, n, acc)
    | none => none
  | op => match Qa0 T md (fun x => unN (Uf f x)) acc op with
    | some (v, acc) => some (v, m, n, acc)
    | none => none
section
variable {P : Program} {ops : Array Oper} {o : Oper} {N : Nat} {w w0 : World} {ρ : QS} {T : TT} {acc acc' : List Prop} {L0 : List Nat} {m m' : SM} {d : SD} {n n' : Nat} {Γ : List QN} {f : SF} {md : Bool}
theorem Qd8 (hT : T.ok P = true) (hw : Qu ops o (QI ρ f) = some true) {t : Nat} {x y : Operand} (ho : o.op = .indexAddr t x y) {v : SV} (h : Qjx T f acc t x y = some (v, acc')) (hc : XD acc') : XD acc /\ Yl P ops o N ρ (QI ρ f) w v := by
  unfold Qjx at h
  split at h
  . rename_i i hi
    split at h
    . split at h
      . cases h
      . rename_i hy2
        have hu := TT.slc hT hi hy2
        split at h
        . cases h
        . rename_i j hj
          have he := TT.size hT hj
          split at h
          . rename_i k o' l c0 hx
            have h1 := QG (ρ := ρ) hx
            simp only [SV.den] at h1
            split at h
            . rename_i c hy
              obtain ⟨K, h2⟩ := Gi (ρ := ρ) hy
              simp only [Option.some.injEq, Prod.mk.injEq] at h
              obtain ⟨rfl, rfl⟩ := h
              obtain ⟨g1, g2⟩ := hc
              exact ⟨g2, (DY (o1 := Nat.add o' (Nat.mul c j.s)) ho hu he h1 h2 (by omega) (by rw [Int.toNat_natCast]; rfl) hw).eq (by simp only [SV.den])⟩
            . split at h
              . rename_i K nn hy
                have h2 := QG (ρ := ρ) hy
                simp only [SV.den] at h2
                simp only [Option.some.injEq, Prod.mk.injEq] at h
                obtain ⟨rfl, rfl⟩ := h
                exact ⟨hc.2, (DY ho hu he h1 h2 hc.1 rfl hw).eq (by simp only [SV.den])⟩
              . cases h
          . rename_i k o' l c0 hx
            have h1 := QG (ρ := ρ) hx
            simp only [SV.den] at h1
            split at h
            . rename_i c hy
              obtain ⟨K, h2⟩ := Gi (ρ := ρ) hy
              simp only [Option.some.injEq, Prod.mk.injEq] at h
              obtain ⟨rfl, rfl⟩ := h
              obtain ⟨g1, g2⟩ := hc
              exact ⟨g2, (DY ho hu he h1 h2 (by omega) rfl hw).eq (by simp only [SV.den, Int.toNat_natCast, Nat.add_assoc]; rfl)⟩
            . split at h
              . rename_i K nn hy
                have h2 := QG (ρ := ρ) hy
                simp only [SV.den] at h2
                simp only [Option.some.injEq, Prod.mk.injEq] at h
                obtain ⟨rfl, rfl⟩ := h
                exact ⟨hc.2, (DY ho hu he h1 h2 hc.1 rfl hw).eq (by simp only [SV.den, Nat.add_assoc])⟩
              . cases h
          . cases h
    . rename_i hn
      have hu := TT.arr hT hi hn
      have he := TT.elem hT hi hn
      split at h
      . rename_i k o' hx
        have h1 := QG (ρ := ρ) hx
        simp only [SV.den] at h1
        split at h
        . rename_i c hy
          obtain ⟨K, h2⟩ := Gi (ρ := ρ) hy
          split at h
          . rename_i hlt
            have hlt := QY hlt
            simp only [Option.some.injEq, Prod.mk.injEq] at h
            obtain ⟨rfl, rfl⟩ := h
            exact ⟨hc, (Qm (o1 := Nat.add o' (Nat.mul c i.q)) ho hu he h1 h2 (by omega) (by rw [Int.toNat_natCast]; rfl) hw).eq (by simp only [SV.den])⟩
          . cases h
        . split at h
          . rename_i K nn hy
            have h2 := QG (ρ := ρ) hy
            simp only [SV.den] at h2
            simp only [Option.some.injEq, Prod.mk.injEq] at h
            obtain ⟨rfl, rfl⟩ := h
            exact ⟨hc.2, (Qm ho hu he h1 h2 hc.1 rfl hw).eq (by simp only [SV.den])⟩
          . cases h
      . rename_i k o' hx
        have h1 := QG (ρ := ρ) hx
        simp only [SV.den] at h1
        split at h
        . rename_i c hy
          obtain ⟨K, h2⟩ := Gi (ρ := ρ) hy
          split at h
          . rename_i hlt
            have hlt := QY hlt
            simp only [Option.some.injEq, Prod.mk.injEq] at h
            obtain ⟨rfl, rfl⟩ := h
            exact ⟨hc, (Qm ho hu he h1 h2 (by omega) rfl hw).eq (by simp only [SV.den, Int.toNat_natCast, Nat.add_assoc]; rfl)⟩
          . cases h
        . split at h
          . rename_i K nn hy
            have h2 := QG (ρ := ρ) hy
            simp only [SV.den] at h2
            simp only [Option.some.injEq, Prod.mk.injEq] at h
            obtain ⟨rfl, rfl⟩ := h
            exact ⟨hc.2, (Qm ho hu he h1 h2 hc.1 rfl hw).eq (by simp only [SV.den, Nat.add_assoc])⟩
          . cases h
      . cases h
  . cases h
theorem QhR {fl : Fl} {t e nn : Nat} {x y : Operand} {cs : List Value} {v : Value} {K : IntKind} {i : Int} (ho : o.op = .index t x y) (hu : P.underlying t = some (.array nn e)) (he : Ed P e = true) (hx : ev fl x = some (.agg cs.toArray)) (hy : ev fl y = some (.int K i)) (h0 : 0 <= i) (h1 : i < nn) (hv : cs[i.toNat]? = some v) (hw : Qu ops o fl = some true) : DV P ops o N fl w v := fun q hq => by
  have hx := hq.ev hx
  have hy := hq.ev hy
  obtain ⟨dd, hue, hd, hs⟩ := Hv he
  have hagg : (isAgg e).run P w = .ok false w := by
    unfold isAgg
    rw [Sem.run_bind, run_underlying hue w]
    cases dd <;> simp_all
  refine Qt.pure (Qj hq hw) _ ?_ ⟨rfl, rfl⟩
  cases hi : P.info? e with
  | none => rw [hi] at hs; cases hs
  | some ie =>
    have h5 : ie.size = 1 := by simpa [hi] using hs
    unfold execOp
    simp only [ho, hx, hy, Instr.index, asIntOf, Sem.run_bind, Sem.run_pure, Result.andThen_ok, run_underlying hu]
    simp [h0, h1, sizeOf, typeInfo, hi, h5, part, Sem.run_bind, hagg, hv]
theorem Qby {ρ : QS} : ∀ {l : List SV}, FL l = false -> Qp ρ l = QO ρ l
  | [], _ => by simp only [Qp, QO]
  | x :: l, h => by
    cases x
    case a K zs n => simp [FL] at h
    all_goals
      have := Qby (ρ := ρ) (l := l) (by simpa only [FL] using h)
      simp only [Qp, QO, SV.cs, this, List.singleton_append]
theorem Qhz (hT : T.ok P = true) (hw : Qu ops o (QI ρ f) = some true) {t : Nat} {x y : Operand} (ho : o.op = .index t x y) {v : SV} (h : ixO T f acc t x y = some (v, acc')) (hc : XD acc') : XD acc /\ Yl P ops o N ρ (QI ρ f) w v := by
  unfold ixO at h
  split at h
  . rename_i i hi
    split at h
    . rename_i K n' hy
      have h2 := HZ (ρ := ρ) hy
      simp only [SV.den] at h2
      split at h
      . rename_i b hx
        have h1 := QG (ρ := ρ) hx
        simp only [SV.den] at h1
        split at h
        . rename_i hs
          simp only [Option.some.injEq, Prod.mk.injEq] at h
          obtain ⟨rfl, rfl⟩ := h
          obtain ⟨⟨g1, g2⟩, g3⟩ := hc
          exact ⟨g3, (QmH n'.toNat ho (TT.str hT hi hs) h1 h2 (by omega) (by omega) hw).eq (by simp only [SV.den])⟩
        . cases h
      . rename_i K' zs z hx
        have h1 := QG (ρ := ρ) hx
        simp only [SV.den] at h1
        split at h
        . cases h
        . rename_i hn
          split at h
          . rename_i j hj
            split at h
            . cases h
            . rename_i hg
              simp only [Option.some.injEq, Prod.mk.injEq] at h
              obtain ⟨rfl, rfl⟩ := h
              obtain ⟨⟨g1, g2, g4⟩, g3⟩ := hc
              refine ⟨g3, (QhR ho (TT.arr hT hi hn) (TT.one hT hj hg) h1 h2 g1 g2 (v := .int K' (zs.getD n'.toNat 0)) ?_ hw).eq (by simp only [SV.den])⟩
              rw [List.getElem?_map, List.getD_eq_getElem?_getD, List.getElem?_eq_getElem (by omega)]
              rfl
          . cases h
      . rename_i l hx
        have h1 := QG (ρ := ρ) hx
        simp only [SV.den] at h1
        split at h
        . cases h
        . rename_i hn
          split at h
          . rename_i j hj
            split at h
            . cases h
            . rename_i hg
              split at h
              . rename_i c hcx
                obtain ⟨K2, h3⟩ := Gi (ρ := ρ) hcx
                split at h
                . rename_i hlt
                  have hlt := QY hlt
                  split at h
                  . cases h
                  . rename_i hA
                    split at h
                    . rename_i u hu
                      simp only [Option.some.injEq, Prod.mk.injEq] at h
                      obtain ⟨rfl, rfl⟩ := h
                      rw [Qby hA] at h1
                      exact ⟨hc, QhR ho (TT.arr hT hi hn) (TT.one hT hj hg) h1 h3 (by omega) (by omega) (by rw [Int.toNat_natCast]; exact QbL (QcP hu)) hw⟩
                    . cases h
                . cases h
              . cases h
          . cases h
      . cases h
    . cases h
  . cases h
theorem Qea (hw : Qu ops o (QI ρ f) = some true) {fn : Fn} {first caps : Array Operand} (ho : o.op = .makeFunc fn first caps) {v : SV} (h : QjA f acc fn first caps = some (v, acc')) (hc : XD acc') : XD acc /\ Yl P ops o N ρ (QI ρ f) w v := by
  unfold QjA at h
  split at h
  . split at h
    . split at h
      rename_i l
      split at h
      . rename_i vs hv
        simp only [Option.some.injEq, Prod.mk.injEq] at h
        obtain ⟨rfl, rfl⟩ := h
        exact ⟨hc, (QjK ho rfl (VI (ρ := ρ) hv) hw).eq (by simp only [SV.den])⟩
      . cases h
    . cases h
  . cases h
/-- What holds behind an operation. -/
def Aft (P : Program) (ρ : QS) (L0 : List Nat) (w0 : World) (f : SF) (m' : SM) (d : SD) (n n' : Nat) (Γ : List QN) (o : Oper) (v : SV) (u : Value) (W : World) : Prop := ∃ ρ', QS.upto n ρ ρ' /\ QI ρ' f = QI ρ f /\ (o.dst = none \/ u = v.den ρ') /\ WM ρ' L0 w0 m' d n' Γ W
theorem Aft.of (hW : WM ρ L0 w0 m d n Γ w) {v : SV} (h : Yl P ops o N ρ (QI ρ f) w v) : DR P ops o N (QI ρ f) w (Aft P ρ L0 w0 f m d n n Γ o v) := h.mono fun u W e => ⟨ρ, fun _ _ => ⟨rfl, rfl⟩, rfl, .inr e.1, by rw [e.2]; exact hW⟩
theorem Qhc {c : List SV} {v : SV} (h : Qfq f m d n c acc = some (v, m', n', acc')) : acc' = acc := by
  unfold Qfq at h
  split at h
  . split at h
    . split at h
      . split at h
        . simp only [Option.some.injEq, Prod.mk.injEq] at h
          exact h.2.2.2.symm
        . cases h
      . cases h
    . cases h
  . cases h
theorem QdW (hW : WM ρ L0 w0 m d n Γ w) {c : List SV} (hk : YK c) {v : SV} (h : Qfq f m d n c acc = some (v, m', n', acc')) : acc' = acc /\ ∀ {u : Value} {W : World}, Qkd w (Qp ρ c) u W -> Aft P ρ L0 w0 f m' d n n' Γ o v u W := by
  unfold Qfq at h
  split at h
  . rename_i h1
    split at h
    . rename_i h2
      split at h
      . rename_i h3
        split at h
        . rename_i h4
          simp only [Option.some.injEq, Prod.mk.injEq] at h
          obtain ⟨rfl, rfl, rfl, rfl⟩ := h
          refine ⟨rfl, fun {u W} hn => ?_⟩
          obtain ⟨rfl, k1, k2, k3⟩ := hn
          exact ⟨ρ.setb n w.heap.size, QS.setb_upto _ _ _, (Ym (QS.setb_upto _ _ _) f h1).symm, .inr (by simp only [SV.den, QS.setb_at]), hW.new h2 h3 hk h4 (Nat.le_refl _) k2 k1⟩
        . cases h
      . cases h
    . cases h
  . cases h
theorem Qha {c : List SV} {l : Nat} {v : SV} (h : Qhb f m d n c l acc = some (v, m', n', acc')) : acc' = acc := by
  unfold Qhb at h
  split at h
  . split at h
    . split at h
      . split at h
        . simp only [Option.some.injEq, Prod.mk.injEq] at h
          exact h.2.2.2.symm
        . cases h
      . cases h
    . cases h
  . cases h
theorem Qji (hW : WM ρ L0 w0 m d n Γ w) {c : List SV} {l : Nat} (hk : YK c) {v : SV} (h : Qhb f m d n c l acc = some (v, m', n', acc')) {u : Value} {W : World} (hn : u = .slice (some ⟨w.heap.size, 0, none⟩) l l /\ Q8 W w.heap.size (Qp ρ c) /\ Below w.heap.size w W /\ w.heap.size < W.heap.size) : Aft P ρ L0 w0 f m' d n n' Γ o v u W := by
  unfold Qhb at h
  split at h
  . rename_i h1
    split at h
    . rename_i h2
      split at h
      . rename_i h3
        split at h
        . rename_i h4
          simp only [Option.some.injEq, Prod.mk.injEq] at h
          obtain ⟨rfl, rfl, rfl, rfl⟩ := h
          obtain ⟨rfl, k1, k2, k3⟩ := hn
          exact ⟨ρ.setb n w.heap.size, QS.setb_upto _ _ _, (Ym (QS.setb_upto _ _ _) f h1).symm, .inr (by simp only [SV.den, QS.setb_at]), hW.new h2 h3 hk h4 (Nat.le_refl _) k2 k1⟩
        . cases h
      . cases h
    . cases h
  . cases h
theorem QdX (hT : T.ok P = true) (hW : WM ρ L0 w0 m d n Γ w) (hw : Qu ops o (QI ρ f) = some true) {v : SV} (hd : (∃ t x y, o.op = .store t x y) -> o.dst = none) (h : Qln T md f m d n acc o.op = some (v, m', n', acc')) (hc : XD acc') : XD acc /\ DR P ops o N (QI ρ f) w (Aft P ρ L0 w0 f m' d n n' Γ o v) := by
  generalize hq : o.op = q at h
  unfold Qln at h
  split at h
  . split at h
    . rename_i sx hx
      split at h
      . rename_i u acc1 hl
        simp only [Option.some.injEq, Prod.mk.injEq] at h
        obtain ⟨rfl, rfl, rfl, rfl⟩ := h
        obtain ⟨h1, h2⟩ := FD hT hW hw hq (QG hx) hl hc
        exact ⟨h1, Aft.of hW h2⟩
      . cases h
    . cases h
  . rename_i t x y
    split at h
    . rename_i sx hx
      split at h
      . rename_i sy hy
        split at h
        . rename_i m1 acc1 hs
          simp only [Option.some.injEq, Prod.mk.injEq] at h
          obtain ⟨rfl, rfl, rfl, rfl⟩ := h
          obtain ⟨h1, h2⟩ := QeW hT hW hw hq (QG hx) (QG hy) hs hc
          exact ⟨h1, h2.mono fun u W hW' => ⟨ρ, fun _ _ => ⟨rfl, rfl⟩, rfl, .inl (hd ⟨_, _, _, hq⟩), hW'⟩⟩
        . cases h
      . cases h
    . cases h
  . split at h
    . rename_i sx hx
      split at h
      . rename_i c acc1 hcv
        obtain ⟨e, hn⟩ := QdW (P := P) (o := o) hW (c := c) (by
          have := Qhc h
          subst this
          exact (YR (ρ := ρ) hcv hc).2.1) h
        subst e
        obtain ⟨c0, c1, c2, c3⟩ := YR (ρ := ρ) hcv hc
        exact ⟨c0, (QhV hq (QG hx) c2 hw).mono fun u W hb => hn hb⟩
      . cases h
    . cases h
  . split at h
    . rename_i i hi
      split at h
      . rename_i c hz
        obtain ⟨z1, z2, Z, z3, z4⟩ := TT.zero hT hi hz
        obtain ⟨e, hn⟩ := QdW (P := P) (o := o) hW z1 h
        subst e
        exact ⟨hc, (Z0 hq z3 (z4 ρ) hw).mono fun u W hb => hn hb⟩
      . cases h
    . cases h
  . split at h
    . rename_i u acc1 hl
      simp only [Option.some.injEq, Prod.mk.injEq] at h
      obtain ⟨rfl, rfl, rfl, rfl⟩ := h
      obtain ⟨h1, h2⟩ := Qd8 (N := N) (w := w) hT hw hq hl hc
      exact ⟨h1, Aft.of hW h2⟩
    . cases h
  . split at h
    . rename_i u acc1 hl
      simp only [Option.some.injEq, Prod.mk.injEq] at h
      obtain ⟨rfl, rfl, rfl, rfl⟩ := h
      obtain ⟨h1, h2⟩ := Qhz (N := N) (w := w) hT hw hq hl hc
      exact ⟨h1, Aft.of hW h2⟩
    . cases h
  . split at h
    . rename_i u acc1 hl
      simp only [Option.some.injEq, Prod.mk.injEq] at h
      obtain ⟨rfl, rfl, rfl, rfl⟩ := h
      obtain ⟨h1, h2⟩ := Qea (P := P) (N := N) (w := w) hw hq hl hc
      exact ⟨h1, Aft.of hW h2⟩
    . cases h
  . split at h
    . rename_i u acc1 hl
      simp only [Option.some.injEq, Prod.mk.injEq] at h
      obtain ⟨rfl, rfl, rfl, rfl⟩ := h
      obtain ⟨h1, h2⟩ := QdB (P := P) (N := N) (w := w) hT hw hq hl hc
      exact ⟨h1, Aft.of hW h2⟩
    . cases h
  . split at h
    . rename_i u acc1 hl
      simp only [Option.some.injEq, Prod.mk.injEq] at h
      obtain ⟨rfl, rfl, rfl, rfl⟩ := h
      obtain ⟨h1, h2⟩ := QdF (P := P) (N := N) (w := w) hT hw hq hl hc
      exact ⟨h1, Aft.of hW h2⟩
    . cases h
  . split at h
    . rename_i c acc1 hl
      have e := Qha h
      subst e
      obtain ⟨h1, h2, h3⟩ := Qd0 (P := P) (N := N) (w := w) (ρ := ρ) hT hw hq hl hc
      exact ⟨h1, h3.mono fun u W hu => Qji hW h2 h hu⟩
    . cases h
  . split at h
    . rename_i k c q r acc1 hl
      rw [De] at h
      simp only [Option.some.injEq, Prod.mk.injEq] at h
      obtain ⟨rfl, rfl, rfl, rfl⟩ := h
      obtain ⟨h1, h2, ⟨c0, h3⟩, h4⟩ := Qet (P := P) (N := N) hT hW hw hq hl hc
      exact ⟨h1, h4.mono fun u W ⟨e1, e2, e3⟩ => ⟨ρ, fun _ _ => ⟨rfl, rfl⟩, rfl, .inr (by rw [e1]; simp only [SV.den]), hW.put h3 e2 h2 e3⟩⟩
    . cases h
  . split at h
    . rename_i u acc1 hl
      simp only [Option.some.injEq, Prod.mk.injEq] at h
      obtain ⟨rfl, rfl, rfl, rfl⟩ := h
      obtain ⟨h1, h2⟩ := E0 (N := N) (w := w) hT hw hq hl hc
      exact ⟨h1, Aft.of hW h2⟩
    . cases h
  . split at h
    . rename_i x v1 hx
      simp only [Option.some.injEq, Prod.mk.injEq] at h
      obtain ⟨rfl, rfl, rfl, rfl⟩ := h
      exact ⟨hc, Aft.of hW (Qe hq (QG hx) hw)⟩
    . cases h
  . split at h
    . rename_i x v1 hx
      simp only [Option.some.injEq, Prod.mk.injEq] at h
      obtain ⟨rfl, rfl, rfl, rfl⟩ := h
      exact ⟨hc, Aft.of hW (Qi hq (QG hx) hw)⟩
    . cases h
  . split at h
    . rename_i u acc1 hl
      simp only [Option.some.injEq, Prod.mk.injEq] at h
      obtain ⟨rfl, rfl, rfl, rfl⟩ := h
      rw [<- hq] at hl
      obtain ⟨h1, h2⟩ := Fh (N := N) (w := w) hT (fun hx => HZ hx) hw hl hc
      exact ⟨h1, Aft.of hW h2⟩
    . cases h
end
end Go.Proofs.YtbiboamaigedjaaGreatDoor
namespace Go.Proofs.YtbiboamaigedjaaGreatDoor
open Go.RowKit
set_option linter.unusedVariables false
set_option linter.constructorNameAsVariable false
set_option linter.unusedSimpArgs false

/-- Whether an operation runs. -/
inductive Gd where
  | on
  | off
  | un (p : Prop) (d : Decidable p)
def J7 (ops : Array Oper) (o : Oper) (f : SF) : Option Gd := match o.guard with
  | none => some .on
  | some (g, b) => match Xd ops g with
    | none => none
    | some t => match lk f t with
      | some (.l true) => match b with
        | true => some .on
        | false => some .off
      | some (.l false) => match b with
        | true => some .off
        | false => some .on
      | some (.c p d) => match b with
        | true => some (.un p d)
        | false => some (.un (¬ p) (@instDecidableNot p d))
      | some (.w p d (.c q e)) => match b with
        | true => some (.un (p /\ q) (@instDecidableAnd p q d e))
        | false => some (.un (p /\ ¬ q) (@instDecidableAnd p (¬ q) d (@instDecidableNot q e)))
      | some .u => some .off
      | _ => none
/-- The operands of a guarded operation, where its guard holds. -/
def uwF (p : Prop) (f : SF) : List Operand -> SF -> List Prop -> SF × List Prop
  | [], f', cs => (f', cs)
  | .tmp t :: l, f', cs => match lk f t with
    | some (.w q _ y) => uwF p f l ((t, y) :: f') ((p -> q) :: cs)
    | _ => uwF p f l f' cs
  | _ :: l, f', cs => uwF p f l f' cs
def Qlt : Op -> Bool
  | .store _ _ _ => true
  | _ => false
def Qge (T : TT) (md : Bool) (N : Nat) (ops : Array Oper) (f : SF) (m : SM) (d : SD) (n : Nat) (acc : List Prop) (o : Oper) : Option (SF × SM × Nat × List Prop) := match J7 ops o f with
  | some .on => match Qln T md f m d n acc o.op with
    | some (v, m', n', acc') => match o.dst with
      | some t => match Nat.blt t N with
        | true => match Qlt o.op with
          | true => none
          | false => some ((t, v) :: f, m', n', acc')
        | false => none
      | none => some (f, m', n', acc')
    | none => none
  | some .off => match o.dst with
    | some t => match Nat.blt t N with
      | true => some ((t, .u) :: f, m, n, acc)
      | false => none
    | none => some (f, m, n, acc)
  | some (.un p dp) => match o.dst with
    | some t => match Nat.blt t N with
      | true => match uwF p f o.op.operands.toList f [] with
        | (f', cs) => match J7 ops o f' with
          | some (.un p' _) => match Qa0 T md (Uf f') [] o.op with
            | some (v, cs') => some ((t, .w p dp v) :: f, m, n, (p -> p') :: (p -> XD cs') :: XD cs :: acc)
            | none => none
          | _ => none
      | false => none
    | none => none
  | none => none
section
variable {P : Program} {ops : Array Oper} {o : Oper} {N : Nat} {w w0 : World} {ρ : QS} {T : TT} {acc acc' : List Prop} {L0 : List Nat} {m m' : SM} {d : SD} {n n' : Nat} {Γ : List QN} {f f' : SF} {md : Bool}
theorem VG {ρ : QS} : (J7 ops o f = some .on -> Qu ops o (QI ρ f) = some true) /\ (J7 ops o f = some .off -> Qu ops o (QI ρ f) = some false) /\ (∀ p dp, J7 ops o f = some (.un p dp) -> Qu ops o (QI ρ f) = some (@decide p dp)) := by
  cases hg : o.guard with
  | none => simp [J7, Qu, hg]
  | some gb =>
    obtain ⟨g, b⟩ := gb
    cases hd : Xd ops g with
    | none => simp [J7, hg, hd]
    | some t =>
      cases hl : lk f t with
      | none => simp [J7, hg, hd, hl]
      | some v =>
        have h1 := Yw (ρ := ρ) hl
        have key : ∀ c : Bool, v.den ρ = .bool c -> Qu ops o (QI ρ f) = some (c == b) := fun c e => by
          rw [e] at h1
          simp [Qu, hg, hd, h1]
        have off : v.den ρ = undef -> Qu ops o (QI ρ f) = some false := fun e => by
          rw [e] at h1
          simp [Qu, hg, hd, h1, undef]
        cases v
        case l c =>
          have := key c (by simp only [SV.den])
          rw [this]
          cases c <;> cases b <;> simp [J7, hg, hd, hl]
        case c p dp =>
          have := key (@decide p dp) (by simp only [SV.den])
          rw [this]
          cases b
          . refine ⟨fun h => by simp [J7, hg, hd, hl] at h, fun h => by simp [J7, hg, hd, hl] at h, fun q dq h => ?_⟩
            simp only [J7, hg, hd, hl, Option.some.injEq, Gd.un.injEq] at h
            obtain ⟨rfl, h⟩ := h
            cases h
            by_cases hp : p <;> simp [hp]
          . refine ⟨fun h => by simp [J7, hg, hd, hl] at h, fun h => by simp [J7, hg, hd, hl] at h, fun q dq h => ?_⟩
            simp only [J7, hg, hd, hl, Option.some.injEq, Gd.un.injEq] at h
            obtain ⟨rfl, h⟩ := h
            cases h
            by_cases hp : p <;> simp [hp]
        case u =>
          rw [off (by simp only [SV.den])]
          simp [J7, hg, hd, hl]
        case w p dp y =>
          cases y
          case c q dq =>
            have e : Qu ops o (QI ρ f) = some (if p then (decide q == b) else false) := by
              cases dp with
              | isTrue hp => rw [if_pos hp]; exact key (@decide q dq) (by simp only [SV.den])
              | isFalse hp => rw [if_neg hp]; exact off (by simp only [SV.den])
            rw [e]
            cases b
            . refine ⟨fun h => by simp [J7, hg, hd, hl] at h, fun h => by simp [J7, hg, hd, hl] at h, fun r dr h => ?_⟩
              simp only [J7, hg, hd, hl, Option.some.injEq, Gd.un.injEq] at h
              obtain ⟨rfl, h⟩ := h
              cases h
              by_cases hp : p <;> by_cases hq : q <;> simp [hp, hq]
            . refine ⟨fun h => by simp [J7, hg, hd, hl] at h, fun h => by simp [J7, hg, hd, hl] at h, fun r dr h => ?_⟩
              simp only [J7, hg, hd, hl, Option.some.injEq, Gd.un.injEq] at h
              obtain ⟨rfl, h⟩ := h
              cases h
              by_cases hp : p <;> by_cases hq : q <;> simp [hp, hq]
          all_goals simp [J7, hg, hd, hl]
        all_goals simp [J7, hg, hd, hl]
theorem Hn {p : Prop} {f : SF} : ∀ {l : List Operand} {g g' : SF} {cs cs' : List Prop}, uwF p f l g cs = (g', cs') -> XD cs' -> XD cs
  | [], g, g', cs, cs', h, hc => by
    simp only [uwF, Prod.mk.injEq] at h
    obtain ⟨rfl, rfl⟩ := h
    exact hc
  | x :: l, g, g', cs, cs', h, hc => by
    cases x
    case tmp t =>
      unfold uwF at h
      split at h
      . exact (Hn h hc).2
      . exact Hn h hc
    all_goals
      unfold uwF at h
      exact Hn h hc
theorem E8 {p : Prop} (hp : p) {a : Act} (ha : Fr N a (QI ρ f)) : ∀ {l : List Operand} {g g' : SF} {cs cs' : List Prop}, uwF p f l g cs = (g', cs') -> XD cs' -> Fr N a (QI ρ g) -> XD cs /\ Fr N a (QI ρ g')
  | [], g, g', cs, cs', h, hc, hg => by
    simp only [uwF, Prod.mk.injEq] at h
    obtain ⟨rfl, rfl⟩ := h
    exact ⟨hc, hg⟩
  | x :: l, g, g', cs, cs', h, hc, hg => by
    cases x
    case tmp t =>
      unfold uwF at h
      split at h
      . rename_i q dq y hl
        have hall : XD ((p -> q) :: cs) := Hn h hc
        have hq : q := hall.1 hp
        have hg' : Fr N a (QI ρ ((t, y) :: g)) := by
          refine ⟨hg.1, fun t' v hv => ?_⟩
          unfold QI VQ at hv
          cases hk : Nat.beq t t' with
          | false => rw [hk] at hv; exact hg.2 t' v hv
          | true =>
            rw [hk] at hv
            cases hv
            have e := Nat.eq_of_beq_eq_true hk
            subst e
            have h1 := ha.2 t _ (Yw hl)
            rw [h1]
            cases dq with
            | isTrue _ => simp only [SV.den]
            | isFalse hn => exact absurd hq hn
        exact ⟨hall.2, (E8 hp ha h hc hg').2⟩
      . exact E8 hp ha h hc hg
    all_goals
      unfold uwF at h
      exact E8 hp ha h hc hg
theorem Qjt {q : Op} (h : Qlt q = false) : ¬ ∃ t x y, q = .store t x y := fun ⟨t, x, y, e⟩ => by subst e; cases h
theorem Qgd (hT : T.ok P = true) (h : Qge T md N ops f m d n acc o = some (f', m', n', acc')) (hc : XD acc') (hW : WM ρ L0 w0 m d n Γ w) {Q : Exit -> Act -> World -> Prop} {rest : List Oper}
    (k : ∀ ρ' W, WM ρ' L0 w0 m' d n' Γ W -> WL P ops Q N rest (QI ρ' f') W) : WL P ops Q N (o :: rest) (QI ρ f) w := by
  unfold Qge at h
  split at h
  . rename_i hg
    have hw := (VG (ρ := ρ)).1 hg
    split at h
    . rename_i v m1 n1 acc1 hm
      split at h
      . rename_i t ht
        split at h
        . rename_i hlt
          split at h
          . cases h
          . rename_i hs
            simp only [Option.some.injEq, Prod.mk.injEq] at h
            obtain ⟨rfl, rfl, rfl, rfl⟩ := h
            obtain ⟨_, h2⟩ := QdX (N := N) hT hW hw (fun hst => absurd hst (Qjt hs)) hm hc
            refine WL.get h2 ht (decide_eq_true (QY hlt)) fun u W hA => ?_
            obtain ⟨ρ', e1, e2, e3, e4⟩ := hA
            rcases e3 with e3 | e3
            . rw [ht] at e3; cases e3
            . subst e3
              rw [<- e2]
              exact k ρ' W e4
        . cases h
      . rename_i ht
        simp only [Option.some.injEq, Prod.mk.injEq] at h
        obtain ⟨rfl, rfl, rfl, rfl⟩ := h
        obtain ⟨_, h2⟩ := QdX (N := N) hT hW hw (fun _ => ht) hm hc
        refine WL.do h2 ht fun u W hA => ?_
        obtain ⟨ρ', e1, e2, e3, e4⟩ := hA
        rw [<- e2]
        exact k ρ' W e4
    . cases h
  . rename_i hg
    have hw := (VG (ρ := ρ)).2.1 hg
    split at h
    . rename_i t ht
      split at h
      . rename_i hlt
        simp only [Option.some.injEq, Prod.mk.injEq] at h
        obtain ⟨rfl, rfl, rfl, rfl⟩ := h
        refine WL.off hw ht (decide_eq_true (QY hlt)) ?_
        have := k ρ w hW
        simp only [QI, SV.den] at this
        exact this
      . cases h
    . rename_i ht
      simp only [Option.some.injEq, Prod.mk.injEq] at h
      obtain ⟨rfl, rfl, rfl, rfl⟩ := h
      exact WL.offn hw ht (k ρ w hW)
  . rename_i p dp hg
    have hw := (VG (ρ := ρ)).2.2 p dp hg
    split at h
    . rename_i t ht
      split at h
      . rename_i hlt
        split at h
        rename_i g cs hu
        split at h
        . rename_i p' dp' hg'
          split at h
          . rename_i v cs' hp
            simp only [Option.some.injEq, Prod.mk.injEq] at h
            obtain ⟨rfl, rfl, rfl, rfl⟩ := h
            obtain ⟨c1, c2, c3, c4⟩ := hc
            have hk := k ρ w hW
            by_cases hp0 : p
            . have hd : DV P ops o N (QI ρ f) w (v.den ρ) := fun a ha => by
                obtain ⟨_, hfr⟩ := E8 (ρ := ρ) hp0 ha hu c3 ha
                have hw' := (VG (ρ := ρ)).2.2 p' dp' hg'
                rw [decide_eq_true (c1 hp0)] at hw'
                exact (Fh (N := N) (w := w) hT (fun hx => QG hx) hw' hp (c2 hp0)).2 a hfr
              refine WL.val hd ht (decide_eq_true (QY hlt)) ?_
              have e : (SV.w p dp v).den ρ = v.den ρ := by
                cases dp with
                | isTrue _ => simp only [SV.den]
                | isFalse hn => exact absurd hp0 hn
              simp only [QI, e] at hk
              exact hk
            . rw [decide_eq_false hp0] at hw
              refine WL.off hw ht (decide_eq_true (QY hlt)) ?_
              have e : (SV.w p dp v).den ρ = undef := by
                cases dp with
                | isTrue hn => exact absurd hn hp0
                | isFalse _ => simp only [SV.den]
              simp only [QI, e] at hk
              exact hk
          . cases h
        . cases h
      . cases h
    . cases h
  . cases h
end
/-- What a function's walk is about. -/
structure Cx where
  P : Program
  T : TT
  N : Nat
  fn : Func
  R : Value -> World -> Prop
  w0 : World
  L0 : List Nat
  ok : T.ok P = true
/-- What is still to do: code, a block's end, operations of a region, a loop's next round. -/
inductive It where
  | c (x : Code)
  | b (id : Nat)
  | o (ops : Array Oper) (l : List Oper)
  | r (J : Act -> World -> Prop)
def QmF (c : Cx) : Exit -> Act -> World -> Prop
  | .ret, a, w => Qfx c.P c.fn c.R c.w0 a w
  | .normal, a, w => Qfx c.P c.fn c.R c.w0 a w
  | _, _, _ => False
def Kn (c : Cx) : List It -> Exit -> Act -> World -> Prop
  | [] => QmF c
  | .c x :: ks => Exit.then (fun a w => x.wp c.P (Kn c ks) a w) (Kn c ks)
  | .b id :: ks => Exit.inBlock id (Kn c ks)
  | .o ops l :: ks => Exit.then (fun a w => wpList c.P ops (Kn c ks) l a w) (Kn c ks)
  | .r J :: ks => Exit.then J (Kn c ks)
def S (c : Cx) (ks : List It) (f : SF) (m : SM) (d : SD) (n : Nat) (Γ : List QN) : Prop := ∀ ρ a w, Fr c.N a (QI ρ f) -> WM ρ c.L0 c.w0 m d n Γ w -> Kn c ks .normal a w
def GB (id : Nat) : List It -> Option (List It)
  | [] => none
  | .b id' :: ks => match Nat.beq id id' with
    | true => some ks
    | false => GB id ks
  | _ :: ks => GB id ks
theorem GA {c : Cx} {id : Nat} {a : Act} {w : World} : ∀ {ks ks' : List It}, GB id ks = some ks' -> Kn c ks' .normal a w -> Kn c ks (.exit id) a w
  | [], _, h, _ => by cases h
  | x :: ks, ks', h, k => by
    cases x
    case b id' =>
      unfold GB at h
      split at h
      . rename_i hb
        cases h
        have := Nat.eq_of_beq_eq_true hb
        subst this
        show (if id = id then Kn c _ .normal a w else _)
        rw [if_pos rfl]
        exact k
      . rename_i hb
        show (if id = id' then _ else Kn c _ (.exit id) a w)
        rw [if_neg (Nat.ne_of_beq_eq_false hb)]
        exact GA (ks := ks) h k
    all_goals
      unfold GB at h
      exact GA (ks := ks) (c := c) h k
def Qj3 {α : Type} : List Prop -> List Prop -> (List Prop -> α) -> α
  | [], b, K => K b
  | x :: l, b, K => Qj3 l b fun r => K (x :: r)
theorem Qae {α : Type} : ∀ {a b : List Prop} {K : List Prop -> α}, Qj3 a b K = K (a ++ b)
  | [], b, K => rfl
  | x :: l, b, K => by unfold Qj3; rw [Qae]; rfl
theorem Qak : ∀ {a b : List Prop}, XD (a ++ b) ↔ XD a /\ XD b
  | [], b => by simp [XD]
  | x :: l, b => by simp only [List.cons_append, XD, Qak (a := l) (b := b), and_assoc]
def run (T : TT) (md : Bool) (N : Nat) (d : SD) : Nat -> List It -> SF -> SM -> Nat -> List Prop -> List It × SF × SM × Nat × List Prop
  | 0, ks, f, m, n, acc => (ks, f, m, n, acc)
  | k + 1, ks, f, m, n, acc => match ks with
    | .c x :: l => match x with
      | .seq a b => run T md N d k (.c a :: .c b :: l) f m n acc
      | .skip => run T md N d k l f m n acc
      | .block id b => run T md N d k (.c b :: .b id :: l) f m n acc
      | .exit id => match GB id l with
        | some l' => run T md N d k l' f m n acc
        | none => (.c (.exit id) :: l, f, m, n, acc)
      | .region _ ⟨os⟩ false => run T md N d k (.o ⟨os⟩ os :: l) f m n acc
      | .cond (.tmp t) a b => match lk f t with
        | some (.l true) => run T md N d k (.c a :: l) f m n acc
        | some (.l false) => run T md N d k (.c b :: l) f m n acc
        | _ => (.c (.cond (.tmp t) a b) :: l, f, m, n, acc)
      | x => (.c x :: l, f, m, n, acc)
    | .b _ :: l => run T md N d k l f m n acc
    | .o _ [] :: l => run T md N d k l f m n acc
    | .o ops (o :: r) :: l => match Qge T md N ops f m d n [] o with
      | some (f', m', n', cs) => Qj3 cs acc fun acc' => run T md N d k (.o ops r :: l) f' m' n' acc'
      | none => (.o ops (o :: r) :: l, f, m, n, acc)
    | ks => (ks, f, m, n, acc)
theorem Yu {T : TT} {N : Nat} {md : Bool} {d : SD} : ∀ {k : Nat} {ks ks' : List It} {f f' : SF} {m m' : SM} {n n' : Nat} {acc acc' : List Prop}, run T md N d k ks f m n acc = (ks', f', m', n', acc') -> XD acc' -> XD acc
  | 0, ks, ks', f, f', m, m', n, n', acc, acc', h, hc => by
    simp only [run, Prod.mk.injEq] at h
    obtain ⟨rfl, rfl, rfl, rfl, rfl⟩ := h
    exact hc
  | k + 1, ks, ks', f, f', m, m', n, n', acc, acc', h, hc => by
    have stop : ∀ {x y : List It × SF × SM × Nat × List Prop}, x = (ks', f', m', n', acc') -> x.2.2.2.2 = acc -> XD acc := fun e1 e2 => by
      rw [e1] at e2
      simp only at e2
      rw [<- e2]; exact hc
    unfold run at h
    split at h
    . split at h
      . exact Yu h hc
      . exact Yu h hc
      . exact Yu h hc
      . split at h
        . exact Yu h hc
        . exact stop (y := default) h rfl
      . exact Yu h hc
      . split at h
        . exact Yu h hc
        . exact Yu h hc
        . exact stop (y := default) h rfl
      . exact stop (y := default) h rfl
    . exact Yu h hc
    . exact Yu h hc
    . split at h
      . rw [Qae] at h
        exact (Qak.1 (Yu h hc)).2
      . exact stop (y := default) h rfl
    . exact stop (y := default) h rfl
theorem YI {c : Cx} {md : Bool} {d : SD} {Γ : List QN} : ∀ {k : Nat} {ks ks' : List It} {f f' : SF} {m m' : SM} {n n' : Nat} {acc acc' : List Prop}, run c.T md c.N d k ks f m n acc = (ks', f', m', n', acc') -> XD acc' -> S c ks' f' m' d n' Γ -> S c ks f m d n Γ
  | 0, ks, ks', f, f', m, m', n, n', acc, acc', h, hc, hs => by
    simp only [run, Prod.mk.injEq] at h
    obtain ⟨rfl, rfl, rfl, rfl, rfl⟩ := h
    exact hs
  | k + 1, ks, ks', f, f', m, m', n, n', acc, acc', h, hc, hs => by
    have stop : ∀ {x}, x = (ks', f', m', n', acc') -> x = (ks, f, m, n, acc) -> S c ks f m d n Γ := fun e1 e2 => by
      rw [e1] at e2
      simp only [Prod.mk.injEq] at e2
      obtain ⟨rfl, rfl, rfl, rfl, rfl⟩ := e2
      exact hs
    unfold run at h
    split at h
    . split at h
      . exact fun ρ a w ha hW => wp_seq (YI h hc hs ρ a w ha hW)
      . exact fun ρ a w ha hW => wp_skip (YI h hc hs ρ a w ha hW)
      . exact fun ρ a w ha hW => wp_block (YI h hc hs ρ a w ha hW)
      . split at h
        . rename_i l' hu
          exact fun ρ a w ha hW => wp_exit (GA hu (YI h hc hs ρ a w ha hW))
        . exact stop h rfl
      . exact fun ρ a w ha hW => wp_region_lit (YI h hc hs ρ a w ha hW)
      . split at h
        . rename_i hl
          exact fun ρ a w ha hW => wp_cond_true (by have := ha.2 _ _ (Yw hl); simp only [SV.den] at this; exact this) (YI h hc hs ρ a w ha hW)
        . rename_i hl
          exact fun ρ a w ha hW => wp_cond_false (by have := ha.2 _ _ (Yw hl); simp only [SV.den] at this; exact this) (YI h hc hs ρ a w ha hW)
        . exact stop h rfl
      . exact stop h rfl
    . exact fun ρ a w ha hW => YI h hc hs ρ a w ha hW
    . rename_i ops l
      exact fun ρ a w ha hW => wpList_nil (P := c.P) (ops := ops) (Q := Kn c l) (YI h hc hs ρ a w ha hW)
    . split at h
      . rename_i f1 m1 n1 cs hst
        rw [Qae] at h
        intro ρ a w ha hW
        have hall := (Qak.1 (Yu h hc)).1
        exact Qgd c.ok hst hall hW (fun ρ' W hW' a' ha' => YI h hc hs ρ' a' W ha' hW') a ha
      . exact stop h rfl
    . exact stop h rfl
end Go.Proofs.YtbiboamaigedjaaGreatDoor
namespace Go.Proofs.YtbiboamaigedjaaGreatDoor
open Go.RowKit
set_option linter.unusedVariables false
set_option linter.constructorNameAsVariable false
set_option linter.unusedSimpArgs false

/-- A contract of a call: what it gives is one of these values, with these facts, and this holds. -/
def CX (P : Program) (F : FuncId) (args : List Value) (w : World) (L : List Nat) {α : Type} (sv : α -> SV) (fs : α -> List QN) (pr : α -> Prop) : Prop := CV P F args w fun v W => ∃ x, v = (sv x).den QR /\ Hs (fs x) L W /\ pr x
def val (ρ : QS) : List SV -> Value
  | [v] => v.den ρ
  | l => .tuple (QO ρ l).toArray
theorem Yr {x : SV} (h : x.wf 0 = true) (ρ ρ' : QS) : x.den ρ = x.den ρ' := SV.den_upto (fun k hk => absurd hk (Nat.not_lt_zero k)) x h
section
variable {c : Cx} {ks ks' : List It} {f f' : SF} {m m' : SM} {d : SD} {n n' : Nat} {Γ : List QN} {cs : List Prop}
theorem S.go (md : Bool) (h : run c.T md c.N d 5000 ks f m n [] = (ks', f', m', n', cs)) (hc : XD cs) (k : S c ks' f' m' d n' Γ) : S c ks f m d n Γ := YI h hc k
/-- The same, where what is asked follows from what is known. -/
theorem S.g (md : Bool) (h : run c.T md c.N d 5000 ks f m n [] = (ks', f', m', n', cs)) (k : S c ks' f' m' d n' Γ) (hc : XD cs := by repeat' (first | exact True.intro | exact fun h => h | refine And.intro ?_ ?_ | omega | exact rfl | (simp only [Int.reduceToNat, Int.reducePow]; omega) | intro _)) : S c ks f m d n Γ := YI h hc k
theorem S.cond {t : Nat} {a b : Code} {p : Prop} {dp : Decidable p} (hl : lk f t = some (.c p dp)) (ht : p -> S c (.c a :: ks) f m d n Γ) (hf : ¬ p -> S c (.c b :: ks) f m d n Γ) : S c (.c (.cond (.tmp t) a b) :: ks) f m d n Γ := fun ρ x w ha hW => by
  have h1 := ha.2 t _ (Yw hl)
  simp only [SV.den] at h1
  by_cases hp : p
  . exact wp_cond_true (by rw [h1, decide_eq_true hp]) (ht hp ρ x w ha hW)
  . exact wp_cond_false (by rw [h1, decide_eq_false hp]) (hf hp ρ x w ha hW)
theorem S.condT {t : Nat} {a b : Code} {p : Prop} {dp : Decidable p} (hl : lk f t = some (.c p dp)) (hp : p) (k : S c (.c a :: ks) f m d n Γ) : S c (.c (.cond (.tmp t) a b) :: ks) f m d n Γ := S.cond hl (fun _ => k) fun h => absurd hp h
theorem S.condF {t : Nat} {a b : Code} {p : Prop} {dp : Decidable p} (hl : lk f t = some (.c p dp)) (hp : ¬ p) (k : S c (.c b :: ks) f m d n Γ) : S c (.c (.cond (.tmp t) a b) :: ks) f m d n Γ := S.cond hl (fun h => absurd h hp) fun _ => k
/-- A call. -/
theorem S.call {ops : Array Oper} {o : Oper} {r : List Oper} {t : Nat} {g : Operand} {xs : List Operand} {ts : Array TypeId} {F : FuncId} {caps vs : List SV} {fn : Func} {α : Type} {sv : α -> SV} {fs : α -> List QN} {pr : α -> Prop} (ho : o.op = .call { callee := .value g, args := ⟨xs⟩, argTypes := ts }) (hg : J7 ops o f = some .on) (hF : Uf f g = some (.f F caps)) (hx : DQ f xs = some vs) (hd : o.dst = some t) (hlt : Nat.blt t c.N = true) (hf : c.P.funcs[F]? = some fn) (hn : (fn.name == "runtime.NumGoroutine") = false) (hb : fn.body.isNone = false)
    (hc : ∀ ρ w, WM ρ c.L0 c.w0 m d n Γ w -> CX c.P F (QO ρ (vs ++ caps)) w (own ρ m c.L0) sv fs pr) (hwf : ∀ x, (sv x).wf 0 = true) (k : ∀ x, pr x -> S c (.o ops r :: ks) ((t, sv x) :: f) m d n (Γ ++ fs x)) : S c (.o ops (o :: r) :: ks) f m d n Γ := fun ρ a w ha hW => by
  have hw := (VG (ρ := ρ)).1 hg
  have h1 := QG (ρ := ρ) hF
  simp only [SV.den] at h1
  have hcc := hc ρ w hW
  unfold CX at hcc
  have e : QO ρ (vs ++ caps) = QO ρ vs ++ QO ρ caps := FT ρ vs caps
  rw [e] at hcc
  have hdr := Qdb (P := c.P) (ops := ops) (o := o) (N := c.N) (xs := xs) (cs := QO ρ caps) (by rw [ho]) h1 hf hn hb (VI hx) hcc hw
  refine (WL.get hdr hd (decide_eq_true (QY hlt)) (Q := Kn c ks) (rest := r) fun v W hv => ?_) a ha
  obtain ⟨⟨x, rfl, hfs, hp⟩, hbel⟩ := hv
  have hW' := hW.below hbel
  have hk := k x hp ρ
  rw [Yr (hwf x) QR ρ]
  intro a' ha'
  refine hk a' W ha' ⟨hW'.mem, hW'.key, hW'.nod, hW'.low, hW'.bel, hW'.dat, hW'.dky, hW'.ll, hW'.hs.app hfs⟩
theorem Qir : ∀ {ks : List It} {a : Act} {w : World}, QmF c .ret a w -> Kn c ks .ret a w
  | [], a, w, h => h
  | x :: ks, a, w, h => by
    cases x <;> exact Qir (ks := ks) h
/-- What a result is. -/
def QkY (T : TT) (f : SF) (m : SM) : ResultVar -> Option SV
  | .tmp t => lk f t
  | .cell t ty => match lk f t with
    | some (.p k o) => match T.get ty with
      | some i => match ZI m k with
        | some cc => match i.g with
          | true => match He cc o with
            | some r => Jf r i.s fun r => some (K7 i r)
            | none => none
          | false => QcS cc o Qbs
        | none => none
      | none => none
    | _ => none
def Qcv (T : TT) (f : SF) (m : SM) : List ResultVar -> Option (List SV)
  | [] => some []
  | r :: l => match QkY T f m r with
    | some v => match Qcv T f m l with
      | some vs => some (v :: vs)
      | none => none
    | none => none
theorem Qi0 {ρ : QS} {w : World} (hW : WM ρ c.L0 c.w0 m d n Γ w) {r : ResultVar} {v : SV} (h : QkY c.T f m r = some v) : RV c.P (QI ρ f) w r (v.den ρ) := by
  cases r with
  | tmp t => exact .tmp (Yw h)
  | cell t ty =>
    unfold QkY at h
    simp only at h
    split at h
    . rename_i k o hl
      have h1 := Yw (ρ := ρ) hl
      simp only [SV.den] at h1
      split at h
      . rename_i i hi
        split at h
        . rename_i cc hk
          obtain ⟨b1, b2⟩ := hW.cell hk
          split at h
          . rename_i hg
            split at h
            . rename_i r hr
              obtain ⟨q1, q2, q3⟩ := JB ρ b2 hr
              obtain ⟨r', g1, g2, g3, g4⟩ := Je ρ q1 h
              simp only [Option.some.injEq] at g1
              subst g1
              rw [JS]
              refine .agg h1 (TT.agg c.ok hi hg) (cs := Qp ρ r') ?_ (by rw [Xm ρ g2, g4])
              have := b1.part o i.s
              rwa [<- q2, <- g3] at this
            . cases h
          . rename_i hg
            obtain ⟨y, j, g1, g2, g3, g4⟩ := K6 ρ b2 h
            have g5 := g4 0 g2
            rw [Nat.add_zero, Nat.add_zero] at g5
            exact .one h1 (TT.one c.ok hi hg) (b1.cell (by rw [g5]; exact Qbr g1 g3 g2))
        . cases h
      . cases h
    . cases h
theorem QdI {a : Act} {ρ : QS} {w : World} (ha : Fr c.N a (QI ρ f)) (hW : WM ρ c.L0 c.w0 m d n Γ w) : ∀ {rs : List ResultVar} {vs : List SV}, Qcv c.T f m rs = some vs -> (rs.mapM (Dj a.tmps)).run c.P w = .ok (QO ρ vs) w
  | [], vs, h => by cases h; simp [QO]
  | r :: l, vs, h => by
    unfold Qcv at h
    split at h
    . rename_i v hv
      split at h
      . rename_i us hu
        cases h
        have h1 := (Qi0 hW hv).run ha
        have h2 := QdI ha hW hu
        simp only [List.mapM_cons, Sem.run_bind, h1, Result.andThen_ok, h2, Sem.run_pure, QO]
      . cases h
    . cases h
theorem QkH (ρ : QS) (vs : List SV) : (if h : (QO ρ vs).toArray.size = 1 then (QO ρ vs).toArray[0] else Value.tuple (QO ρ vs).toArray) = val ρ vs := by
  match vs with
  | [] => simp [QO, val]
  | [v] => simp [QO, val]
  | v :: u :: l => simp [QO, val]
theorem Qlx {rs : List ResultVar} {vs : List SV} (hr : c.fn.results = ⟨rs⟩) (hv : Qcv c.T f m rs = some vs) (post : ∀ ρ W, WM ρ c.L0 c.w0 m d n Γ W -> c.R (val ρ vs) W) {ρ : QS} {a : Act} {w : World} (ha : Fr c.N a (QI ρ f)) (hW : WM ρ c.L0 c.w0 m d n Γ w) : Qfx c.P c.fn c.R c.w0 a w := by
  refine ⟨ha.1.2, val ρ vs, ?_, post ρ w hW, hW.bel⟩
  have h1 := QdI ha hW hv
  rw [Ff, hr]
  simp only [List.mapM_toArray, Sem.run_bind, Sem.run_map, h1, Result.andThen_ok, Sem.run_pure]
  rw [<- QkH ρ vs]
theorem S.ret {rs : List ResultVar} {vs : List SV} (hr : c.fn.results = ⟨rs⟩) (hv : Qcv c.T f m rs = some vs) (post : ∀ ρ W, WM ρ c.L0 c.w0 m d n Γ W -> c.R (val ρ vs) W) : S c (.c .ret :: ks) f m d n Γ := fun ρ a w ha hW => wp_ret (Qir (ks := ks) (Qlx hr hv post ha hW))
end
def QfG : List SV -> Nat -> SF
  | [], _ => []
  | x :: l, k => (k, x) :: QfG l (Nat.succ k)
theorem Qb1 (ρ : QS) : ∀ (l : List SV) (k : Nat), QI ρ (QfG l k) = ((QO ρ l).zipIdx k).map fun p => (p.2, p.1)
  | [], k => by simp [QfG, QI, QO]
  | x :: l, k => by simp only [QfG, QI, QO, List.zipIdx_cons, List.map_cons, Qb1 ρ l (Nat.succ k)]
theorem S.enter {P : Program} {T : TT} (ok : T.ok P = true) {F : FuncId} {fn : Func} {body : Code} {w : World} {L : List Nat} {R : Value -> World -> Prop} {N : Nat} {vs : List Value} (args : List SV) (Γ : List QN) (hf : P.funcs[F]? = some fn) (hb : fn.body = some body) (hn : fn.ntmps = N) (hN : decide (vs.length <= N) = true) (ha : ∀ ρ, QO ρ args = vs) (hL : LL L w) (hs : Hs Γ L w)
    (h : S ⟨P, T, N, fn, R, w, L, ok⟩ [.c body] (QfG args 0) [] [] 0 Γ) : CV P F vs w R :=
  QbU vs (QI QR (QfG args 0)) hf hb hn hN (by rw [Qb1, ha]) fun a hfr => by
    have := h QR a w hfr ⟨(fun x hx => by cases hx), (fun x hx => by cases hx), List.nodup_nil, (fun x hx => by cases hx), Below.refl _ _, (fun x hx => by cases hx), (fun x hx => by cases hx), hL, hs⟩
    refine wp_mono this fun e a w hq => ?_
    cases e <;> first
      | exact hq.elim
      | (obtain ⟨h1, v, h2, h3, h4⟩ := hq; exact ⟨h1, v, h2, v, rfl, h3, h4⟩)
/-- The values of what is kept, and of what is said anew, are the same. -/
def SV.eqv : SV -> SV -> Prop
  | .i K1 n1, .i K2 n2 => K1 = K2 /\ n1 = n2
  | .c p1 _, .c p2 _ => p1 ↔ p2
  | .s m1, .s m2 => m1 = m2
  | .y k1 o1 l1 e1, .y k2 o2 l2 e2 => k1 = k2 /\ o1 = o2 /\ l1 = l2 /\ e1 = e2
  | .x k1 o1 j1 n1, .x k2 o2 j2 n2 => k1 = k2 /\ o1 = o2 /\ j1 = j2 /\ n1 = n2
  | .x k1 o1 j1 n1, .p k2 o2 => k1 = k2 /\ o1 + n1.toNat * j1 = o2
  | .r k1 o1 j1 n1, .q k2 o2 => k1 = k2 /\ o1 + n1.toNat * j1 = o2
  | y1, y2 => y1 = y2
theorem Qei {x y : SV} (h : x.eqv y) (ρ : QS) : x.den ρ = y.den ρ := by
  unfold SV.eqv at h
  split at h
  . obtain ⟨rfl, rfl⟩ := h; rfl
  . rename_i p dp q dq
    simp only [SV.den]
    by_cases hp : p
    . have hq : q := h.1 hp
      simp [hp, hq]
    . have hq : ¬ q := fun hq => hp (h.2 hq)
      simp [hp, hq]
  . subst h; rfl
  . obtain ⟨rfl, rfl, rfl, rfl⟩ := h; rfl
  . obtain ⟨rfl, rfl, rfl, rfl⟩ := h; rfl
  . obtain ⟨rfl, rfl⟩ := h; simp only [SV.den, SV.cs]
  . obtain ⟨rfl, rfl⟩ := h; simp only [SV.den, SV.cs]
  . subst h; rfl
def mF (f : SF) : SF -> Prop
  | [] => True
  | (t, v) :: l => (match lk f t with
    | some u => u.eqv v
    | none => False) /\ mF f l
theorem DE {ρ : QS} {f : SF} : ∀ {g : SF}, mF f g -> Sub (QI ρ g) (QI ρ f)
  | [], _ => trivial
  | (t, v) :: l, h => by
    obtain ⟨h1, h2⟩ := h
    split at h1
    . rename_i u hu
      exact ⟨by rw [Yw hu, Qei h1], DE h2⟩
    . exact h1.elim
def QlA : List SV -> List SV -> Prop
  | [], [] => True
  | x :: l, y :: l' => x.eqv y /\ y.ok /\ QlA l l'
  | _, _ => False
theorem Qlz {x y : SV} (h : x.eqv y) (ρ : QS) : x.cs (x.den ρ) = y.cs (y.den ρ) := by
  have hd := Qei h ρ
  unfold SV.eqv at h
  split at h
  . obtain ⟨rfl, rfl⟩ := h; rfl
  . simp only [SV.cs, hd]
  . subst h; rfl
  . obtain ⟨rfl, rfl, rfl, rfl⟩ := h; rfl
  . obtain ⟨rfl, rfl, rfl, rfl⟩ := h; rfl
  . obtain ⟨rfl, rfl⟩ := h; simp only [SV.den, SV.cs]
  . obtain ⟨rfl, rfl⟩ := h; simp only [SV.den, SV.cs]
  . subst h; rfl
theorem FO {ρ : QS} : ∀ {l l' : List SV}, QlA l l' -> Qp ρ l = Qp ρ l' /\ YK l'
  | [], [], _ => ⟨rfl, trivial⟩
  | x :: l, y :: l', h => by
    obtain ⟨h1, h2, h3⟩ := h
    obtain ⟨g1, g2⟩ := FO (ρ := ρ) h3
    exact ⟨by simp only [Qp, Qlz h1, g1], h2, g2⟩
  | [], _ :: _, h => h.elim
  | _ :: _, [], h => h.elim
def mM (m : SM) : SM -> Prop
  | [] => True
  | (k, c) :: l => (match ZI m k with
    | some c' => QlA c' c
    | none => False) /\ mM m l
theorem EN {m : SM} {ρ : QS} : ∀ {m' : SM}, mM m m' -> ∀ x ∈ m', ∃ c', (x.1, c') ∈ m /\ Qp ρ c' = Qp ρ x.2 /\ YK x.2
  | [], _, x, hx => by cases hx
  | (k, c) :: l, h, x, hx => by
    obtain ⟨h1, h2⟩ := h
    cases hx with
    | head =>
      split at h1
      . rename_i c' hk
        exact ⟨c', Zu hk, (FO (ρ := ρ) h1).1, (FO (ρ := ρ) h1).2⟩
      . exact h1.elim
    | tail _ hx => exact EN h2 x hx
def FI : SM -> Bool
  | [] => true
  | (k, _) :: l => match l.any fun x => Nat.beq x.1 k with
    | true => false
    | false => FI l
theorem Hc : ∀ {m : SM}, FI m = true -> (m.map Prod.fst).Nodup
  | [], _ => List.nodup_nil
  | (k, c) :: l, h => by
    unfold FI at h
    split at h
    . cases h
    . rename_i hn
      rw [List.map_cons, List.nodup_cons]
      refine ⟨fun hk => ?_, Hc h⟩
      obtain ⟨x, hx, e⟩ := List.mem_map.1 hk
      rw [Bool.eq_false_iff] at hn
      refine hn (List.any_eq_true.2 ⟨x, hx, ?_⟩)
      simp only [e]
      exact Nat.beq_refl k
/-- Less is kept in mind. -/
theorem WM.sub {ρ : QS} {L0 : List Nat} {w0 w : World} {m m' : SM} {d d' : SD} {n n' : Nat} {Γ Γ' : List QN} (h : WM ρ L0 w0 m d n Γ w) (hm : mM m m') (hk : FI m' = true) (hmn : HR n' m' = true) (hd : ∀ x ∈ d', x ∈ d) (hdn : Hk n' d' = true) (hs : Hs Γ' (own ρ m L0) w) : WM ρ L0 w0 m' d' n' Γ' w := by
  have hsub : ∀ x ∈ own ρ m' L0, x ∈ own ρ m L0 := fun x hx => by
    rcases List.mem_append.1 hx with h1 | h1
    . obtain ⟨y, hy, rfl⟩ := List.mem_map.1 h1
      obtain ⟨c', hc, _⟩ := EN (ρ := ρ) hm y hy
      exact List.mem_append_left _ (List.mem_map.2 ⟨(y.1, c'), hc, rfl⟩)
    . exact List.mem_append_right _ h1
  refine ⟨fun x hx => ?_, fun x hx => (Gy hmn x hx).1, ?_, fun x hx => ?_, h.bel, fun x hx => ?_, fun x hx => (HV hdn x hx).1, h.ll, hs.stp (Stp.refl _ _) fun x hx => .inl (hsub x hx)⟩
  . obtain ⟨c', hc, e1, e2⟩ := EN (ρ := ρ) hm x hx
    rw [<- e1]
    exact ⟨(h.mem _ hc).1, e2⟩
  . have hn := Hc hk
    have : (m'.map fun x => ρ.b x.1) = (m'.map Prod.fst).map ρ.b := by simp
    rw [this]
    refine List.pairwise_map.2 (hn.imp_of_mem fun {a b} ha hb hne => ?_)
    obtain ⟨x, hx, rfl⟩ := List.mem_map.1 ha
    obtain ⟨y, hy, rfl⟩ := List.mem_map.1 hb
    obtain ⟨c1, hc1, _⟩ := EN (ρ := ρ) hm x hx
    obtain ⟨c2, hc2, _⟩ := EN (ρ := ρ) hm y hy
    exact Uy (x := (x.1, c1)) (y := (y.1, c2)) h.nod hc1 hc2 hne
  . obtain ⟨c', hc, _⟩ := EN (ρ := ρ) hm x hx
    exact h.low (x.1, c') hc
  . obtain ⟨h1, h2⟩ := h.dat x (hd x hx)
    exact ⟨fun hx => h1 (hsub _ hx), h2⟩
/-- What a loop's round begins from. -/
def Hd (c : Cx) (f : SF) (m : SM) (d : SD) (n : Nat) (Γ : List QN) (a : Act) (w : World) : Prop := ∃ ρ, Fr c.N a (QI ρ f) /\ WM ρ c.L0 c.w0 m d n Γ w
def Qd5 (f : SF) : List Nat -> Option SF
  | [] => some []
  | t :: l => match lk f t with
    | some v => match Qd5 f l with
      | some r => some ((t, v) :: r)
      | none => none
    | none => none
theorem EP {ρ : QS} {f : SF} : ∀ {l : List Nat} {g : SF}, Qd5 f l = some g -> Sub (QI ρ g) (QI ρ f)
  | [], g, h => by cases h; trivial
  | t :: l, g, h => by
    unfold Qd5 at h
    split at h
    . rename_i v hv
      split at h
      . rename_i r hr
        cases h
        exact ⟨Yw hv, EP hr⟩
      . cases h
    . cases h
theorem QeE {f : Fl} : ∀ {a b : Fl}, Sub a f -> Sub b f -> Sub (a ++ b) f
  | [], b, _, h => h
  | (t, v) :: l, b, h, h' => ⟨h.1, QeE h.2 h'⟩
theorem QbM (ρ : QS) : ∀ a b : SF, QI ρ (a ++ b) = QI ρ a ++ QI ρ b
  | [], b => rfl
  | (t, v) :: l, b => by simp only [List.cons_append, QI, QbM ρ l b]
section
variable {c : Cx} {ks ks' : List It} {f f' : SF} {m m' : SM} {d : SD} {n n' : Nat} {Γ : List QN} {cs : List Prop}
/-- A loop: kp the slots that stay as they are, ch those that are said anew, mm the own blocks, Δ the facts that come and go. -/
theorem S.loop {α : Type} {body : Code} (kp : List Nat) (ch : α -> SF) (mm : α -> SM) (Δ : α -> List QN) (I : α -> Prop) (μ : α -> Nat) (s0 : α) {fk : SF} (hk : Qd5 f kp = some fk) (hkm : ∀ s, FI (mm s) = true) (hmn : ∀ s, HR n (mm s) = true) (hdn : Hk n d = true)
    (h0 : mF f (ch s0)) (h1 : mM m (mm s0)) (h2 : ∀ ρ w, WM ρ c.L0 c.w0 m d n Γ w -> Hs (Δ s0) (own ρ m c.L0) w) (h3 : I s0)
    (round : ∀ (J : Act -> World -> Prop) s, I s -> (∀ s', I s' -> μ s' < μ s -> ∀ a w, Hd c (ch s' ++ fk) (mm s') d n (Γ ++ Δ s') a w -> J a w) -> S c (.c body :: .r J :: ks) (ch s ++ fk) (mm s) d n (Γ ++ Δ s)) : S c (.c (.loop body) :: ks) f m d n Γ := fun ρ a w ha hW => by
  refine wp_loop_ghost (fun k a w => ∃ s, μ s = k /\ I s /\ Hd c (ch s ++ fk) (mm s) d n (Γ ++ Δ s) a w) (μ s0) ⟨s0, rfl, h3, ρ, ?_, ?_⟩ fun k a w hI => ?_
  . rw [QbM]
    exact ha.sub (QeE (DE h0) (EP hk))
  . exact hW.sub h1 (hkm s0) (hmn s0) (fun x hx => hx) hdn (hW.hs.app (h2 ρ w hW))
  . obtain ⟨s, rfl, hi, ρ', ha', hW'⟩ := hI
    exact round _ s hi (fun s' hi' hlt a w hd => ⟨μ s', hlt, s', rfl, hi', hd⟩) ρ' a w ha' hW'
theorem Hs.pre {L : List Nat} {w : World} : ∀ {Γ Δ : List QN}, Hs (Γ ++ Δ) L w -> Hs Γ L w
  | [], _, _ => trivial
  | φ :: l, Δ, h => ⟨h.1, Hs.pre h.2⟩
/-- A round's end. -/
theorem S.again {J : Act -> World -> Prop} {g : SF} {mm : SM} {d' : SD} {n0 : Nat} {Γ' : List QN} (hJ : ∀ a w, Hd c g mm d' n0 Γ' a w -> J a w) (h0 : mF f g) (h1 : mM m mm) (hk : FI mm = true) (hmn : HR n0 mm = true) (hd : ∀ x ∈ d', x ∈ d) (hdn : Hk n0 d' = true) (hs : ∀ ρ w, WM ρ c.L0 c.w0 m d n Γ w -> Hs Γ' (own ρ m c.L0) w) : S c (.r J :: ks) f m d n Γ := fun ρ a w ha hW => hJ a w ⟨ρ, ha.sub (DE h0), hW.sub h1 hk hmn hd hdn (hs ρ w hW)⟩
end
end Go.Proofs.YtbiboamaigedjaaGreatDoor
