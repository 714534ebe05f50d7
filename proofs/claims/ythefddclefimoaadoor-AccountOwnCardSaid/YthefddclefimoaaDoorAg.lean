/- Sorted texts, each once; what slices.Sort and slices.Compact leave of a slice of one's own; a field that is stored. No program stands here. -/
import Derived.Test.YthefddclefimoaaDoorNs
import Derived.Test.YthefddclefimoaaDoorLs
import Derived.Sort.OwnSorted
import Derived.Lib.SlicesCompact
import Derived.Lib.RowBridge
import Derived.Lib.AppendZeros
namespace Go.Proofs.YthefddclefimoaaDoor
open Go.RowKit Go.Sort
set_option linter.unusedVariables false
set_option linter.unusedSimpArgs false
-- the order of lists of bytes
theorem bl_lt : ∀ x y : List UInt8, Op.bytesLess x y = decide (x < y)
  | _, [] => by cases ‹List UInt8› <;> simp [Op.bytesLess]
  | [], _ :: _ => by simp [Op.bytesLess]
  | a :: x, b :: y => by
    rw [Op.bytesLess, bl_lt x y]
    rcases u8_tri a b with h | h | h
    · simp [h, List.cons_lt_cons_iff]
    · subst h
      simp [List.cons_lt_cons_iff]
    · obtain ⟨h1, h2⟩ := u8_no h
      have h3 : ¬ a = b := fun e => h2 e.symm
      simp [h1, h3, List.cons_lt_cons_iff]
theorem bl_le (x y : List UInt8) : decide (x ≤ y) = !Op.bytesLess y x := by
  rw [bl_lt]
  by_cases h : y < x
  · simp [h, List.not_le.2 h]
  · simp [h, List.not_lt.1 h]
abbrev bL (s : ByteArray) : List UInt8 := s.data.toList
abbrev bA (l : List UInt8) : ByteArray := ⟨l.toArray⟩
theorem bA_bL (s : ByteArray) : bA (bL s) = s := rfl
/-- Sorted; each once. -/
def sortT (ts : List ByteArray) : List ByteArray := ((ts.map bL).mergeSort fun x y => decide (x ≤ y)).map bA
def onceT (ts : List ByteArray) : List ByteArray := (Lib.compact (ts.map bL)).map bA
theorem bL_bA (l : List UInt8) : bL (bA l) = l := rfl
theorem sless_bA (x y : List UInt8) : sless (bA x) (bA y) = Op.bytesLess x y := by
  unfold sless
  rw [ByteArray.toList_eq, ByteArray.toList_eq]
theorem sortT_len (ts : List ByteArray) : (sortT ts).length = ts.length := by simp [sortT, List.length_mergeSort]
theorem sortT_mem (ts : List ByteArray) (s : ByteArray) : s ∈ sortT ts ↔ s ∈ ts := by
  unfold sortT
  simp only [List.mem_map, List.mem_mergeSort]
  constructor
  · rintro ⟨l, ⟨t, ht, rfl⟩, rfl⟩
    exact ht
  · exact fun h => ⟨_, ⟨s, h, rfl⟩, rfl⟩
theorem sortT_le (ts : List ByteArray) : (sortT ts).Pairwise fun a b => sless b a = false := by
  unfold sortT
  rw [List.pairwise_map]
  have h := List.pairwise_mergeSort (le := fun x y : List UInt8 => decide (x ≤ y)) (fun a b c h1 h2 => ?_) (fun a b => ?_) (ts.map bL)
  · refine h.imp fun {a b} hab => ?_
    rw [sless_bA]
    rw [bl_le] at hab
    simpa using hab
  · simp only [bl_le, Bool.not_eq_true'] at h1 h2 ⊢
    rcases bl_tri c a with ⟨p, _, _⟩ | ⟨p, _, _⟩ | rfl
    · rcases bl_tri b a with ⟨q, _, _⟩ | ⟨_, q, _⟩ | rfl
      · rw [q] at h1; cases h1
      · rw [bl_trans _ _ _ p q] at h2; cases h2
      · rw [p] at h2; cases h2
    · exact p
    · exact bl_irrefl _
  · simp only [bl_le, Bool.or_eq_true, Bool.not_eq_true']
    rcases bl_tri a b with ⟨_, p, _⟩ | ⟨p, _, _⟩ | rfl
    · exact .inl p
    · exact .inr p
    · exact .inl (bl_irrefl _)
theorem once_mem (zs : List (List UInt8)) (x : List UInt8) : x ∈ Lib.compact zs ↔ x ∈ zs := by
  unfold Lib.compact Lib.compactUpTo
  simp only [List.mem_map, List.mem_filter, List.mem_range]
  constructor
  · rintro ⟨j, ⟨hj, _⟩, rfl⟩
    rw [getElem!_pos zs.toArray j (by simpa using hj)]
    exact List.getElem_mem _
  · intro hx
    obtain ⟨k, hk, rfl⟩ := List.getElem_of_mem hx
    have key : ∀ n k (hk : k < zs.length), k ≤ n → ∃ j, (j < zs.length ∧ Lib.keeps zs.toArray j = true) ∧ zs.toArray[j]! = zs[k] := by
      intro n
      induction n with
      | zero =>
        intro k hk hn
        obtain rfl : k = 0 := by omega
        exact ⟨0, ⟨hk, by simp [Lib.keeps]⟩, by rw [getElem!_pos zs.toArray 0 (by simpa using hk)]; rfl⟩
      | succ n ih =>
        intro k hk hn
        by_cases hq : Lib.keeps zs.toArray k = true
        · exact ⟨k, ⟨hk, hq⟩, by rw [getElem!_pos zs.toArray k (by simpa using hk)]; rfl⟩
        · have h1 : ¬ (k = 0 ∨ zs.toArray[k]! ≠ zs.toArray[k - 1]!) := fun h => hq (by unfold Lib.keeps; exact decide_eq_true h)
          have h2 : k ≠ 0 := fun e => h1 (.inl e)
          have h3 : zs.toArray[k]! = zs.toArray[k - 1]! := Classical.byContradiction fun e => h1 (.inr e)
          obtain ⟨j, hj, e⟩ := ih (k - 1) (by omega) (by omega)
          refine ⟨j, hj, ?_⟩
          rw [getElem!_pos zs.toArray k (by simpa using hk), getElem!_pos zs.toArray (k - 1) (by simp; omega)] at h3
          rw [e]
          simpa using h3.symm
    exact key k k hk (Nat.le_refl _)
theorem onceT_mem (ts : List ByteArray) (s : ByteArray) : s ∈ onceT ts ↔ s ∈ ts := by
  unfold onceT
  simp only [List.mem_map, once_mem]
  constructor
  · rintro ⟨l, ⟨t, ht, rfl⟩, rfl⟩
    exact ht
  · exact fun h => ⟨_, ⟨s, h, rfl⟩, rfl⟩
theorem onceT_up {ts : List ByteArray} (h : ts.Pairwise fun a b => sless b a = false) : (onceT ts).Pairwise fun a b => sless a b = true := by
  unfold onceT Lib.compact Lib.compactUpTo
  rw [List.map_map, List.pairwise_map]
  refine List.Pairwise.imp_of_mem ?_ (List.Pairwise.filter _ List.pairwise_lt_range)
  intro i j hi hj hij
  simp only [List.mem_filter, List.mem_range, List.length_map] at hi hj
  have gi : (ts.map bL).toArray[i]! = bL ts[i] := by rw [getElem!_pos _ i (by simpa using hi.1)]; simp
  have gj : (ts.map bL).toArray[j]! = bL ts[j] := by rw [getElem!_pos _ j (by simpa using hj.1)]; simp
  have gp : (ts.map bL).toArray[j - 1]! = bL (ts[j - 1]'(by omega)) := by rw [getElem!_pos _ (j - 1) (by simp; omega)]; simp
  have hk := of_decide_eq_true hj.2
  rw [gj, gp] at hk
  have hne : ts[j] ≠ ts[j - 1]'(by omega) := by
    rcases hk with hk | hk
    · omega
    · exact fun e => hk (by rw [e])
  have h1 := List.pairwise_iff_getElem.1 h (j - 1) j (by omega) hj.1 (by omega)
  show sless (bA (ts.map bL).toArray[i]!) (bA (ts.map bL).toArray[j]!) = true
  rw [gi, gj]
  show sless ts[i] ts[j] = true
  have h2 : sless (ts[j - 1]'(by omega)) ts[j] = true := by
    rcases sless_tri (ts[j - 1]'(by omega)) ts[j] with ⟨p, _, _⟩ | ⟨_, p, _⟩ | p
    · exact p
    · rw [p] at h1; cases h1
    · exact absurd p.symm hne
  by_cases hij' : i = j - 1
  · subst hij'; exact h2
  · have h3 := List.pairwise_iff_getElem.1 h i (j - 1) hi.1 (by omega) (by omega)
    rcases sless_tri ts[i] (ts[j - 1]'(by omega)) with ⟨p, _, _⟩ | ⟨_, p, _⟩ | p
    · exact sless_trans _ _ _ p h2
    · rw [p] at h3; cases h3
    · rw [p]; exact h2
-- texts of one's own
theorem flat_T {enc : ByteArray → List Value} (he : ∀ s, enc s = [.string s]) : ∀ ts : List ByteArray, (ts.map enc).flatten = (ts.map bL).map encStr
  | [] => rfl
  | a :: l => by rw [List.map_cons, List.flatten_cons, flat_T he l, he]; rfl
theorem OwS.holds {w : World} {v : Value} {ts : List ByteArray} {B : Nat} {enc : ByteArray → List Value} (he : ∀ s, enc s = [.string s]) (h : OwS 1 w v (ts.map enc) B) : ∃ cap cur t, v = .slice (some ⟨B, 0, none⟩) (ts.map bL).length cap ∧ ts.length ≤ cap ∧ cap ≤ maxLen ∧ w.heap[B]? = some (.cells cur t (0, 0)) ∧ cur.size = cap ∧ Holds encStr w B 0 (ts.map bL).toArray := by
  obtain ⟨_, hr, cap, sp, rfl, h1, h2, h3, t, hb⟩ := h
  simp only [List.length_map, Nat.mul_one] at h1 h3
  rw [flat_T he] at hb
  refine ⟨cap, _, t, by simp, h1, h2, hb, by simp; omega, fun j hj => ?_⟩
  have hj' : j < ts.length := by simpa using hj
  refine ⟨?_, by simp [World.frozen?, hb]⟩
  refine (Blk.range ⟨t, hb⟩) j _ ?_
  rw [List.getElem?_append_left (by simpa using hj'), getElem!_pos _ j hj]
  simp [hj']
theorem ows_cur {w : World} {B n cap : Nat} {t : TypeId} {cur : Array Value} {ts : List ByteArray} {enc : ByteArray → List Value} (he : ∀ s, enc s = [.string s]) (hb : w.heap[B]? = some (.cells cur t (0, 0))) (hs : cur.size = cap) (hn : n ≤ cap) (hc : cap ≤ maxLen) (ht : cur.toList.take n = (ts.map bL).map encStr) (hl : ts.length = n) : OwS 1 w (.slice (some ⟨B, 0, none⟩) n cap) (ts.map enc) B := by
  refine ⟨by decide, fun r hr => ?_, cap, cur.toList.drop n, by rw [List.length_map, hl], by rw [List.length_map, hl]; exact hn, hc, by rw [List.length_drop, Array.length_toList, hs, List.length_map, hl, Nat.mul_one], t, ?_⟩
  · obtain ⟨s, _, rfl⟩ := List.mem_map.1 hr
    rw [he]; rfl
  · rw [flat_T he, ← ht, List.take_append_drop]
    exact hb
theorem sort_own {P : Program} {F : FuncId} {enc : ByteArray → List Value} (he : ∀ s, enc s = [.string s]) (hS : ∀ (blk off cap : Nat) (ss : List (List UInt8)) (w : World), Holds encStr w blk off ss.toArray → blk < w.heap.size → ss.length < 4611686018427387904 → Calls P F #[.slice (some ⟨blk, off, none⟩) ss.length cap] w fun e w' => e = .returned (.tuple #[]) ∧ ∃ n os, w' = grow (putRow encStr (Sort.ahead w n) blk off (ss.mergeSort fun x y => decide (x ≤ y)).toArray) os)
    {w : World} {v : Value} {ts : List ByteArray} {B : Nat} (h : OwS 1 w v (ts.map enc) B) (hlen : ts.length ≤ 1000000) : Calls P F [v].toArray w fun e w' => ∃ x, e = .returned x ∧ x = .tuple #[] ∧ OwS 1 w' v ((sortT ts).map enc) B ∧ Chg B w w' := by
  have hlt := h.lt
  obtain ⟨cap, cur, t, rfl, h1, h2, h3, h4, h5⟩ := h.holds he
  refine (hS B 0 cap (ts.map bL) w h5 hlt (by simp; omega)).mono ?_
  rintro e w' ⟨rfl, n, os, rfl⟩
  have hg := grownBy_sorted (w := w) (g := B) (n := n) (os := os) ((ts.map bL).mergeSort fun x y => decide (x ≤ y)).toArray
  refine ⟨_, rfl, rfl, ?_, hg.os, hg.tape, hg.output, hg.size, fun k hk hne => hg.block k hk (by simpa using hne)⟩
  refine ows_cur he (heap_sorted _ h3) (by simp [putCells, h4]) (by simpa using h1) h2 ?_ (by simp [sortT_len])
  have hl : ((ts.map bL).mergeSort fun x y => decide (x ≤ y)).length = (ts.map bL).length := List.length_mergeSort _
  have := take_putCells cur ((ts.map bL).mergeSort fun x y => decide (x ≤ y)) (by rw [hl, List.length_map]; omega)
  rw [hl] at this
  rw [this]
  simp [sortT, Function.comp_def]
theorem once_own {P : Program} {F : FuncId} {enc : ByteArray → List Value} (he : ∀ s, enc s = [.string s]) (hS : ∀ (blk off cap : Nat) (zs : List (List UInt8)) (w : World), Holds encStr w blk off zs.toArray → zs.length ≤ 9223372036854775807 → zs.length ≤ cap → Calls P F #[.slice (some ⟨blk, off, none⟩) zs.length cap] w fun e w' => e = .returned (.slice (some ⟨blk, off, none⟩) (Lib.compact zs).length cap) ∧ ∃ q, w' = putRow encStr (Sort.ahead w q) blk off (Lib.compact zs ++ List.replicate (zs.length - (Lib.compact zs).length) []).toArray)
    {w : World} {v : Value} {ts : List ByteArray} {B : Nat} (h : OwS 1 w v (ts.map enc) B) (hlen : ts.length ≤ 1000000) : Calls P F [v].toArray w fun e w' => ∃ x, e = .returned x ∧ OwS 1 w' x ((onceT ts).map enc) B ∧ Chg B w w' := by
  have hlt := h.lt
  obtain ⟨cap, cur, t, rfl, h1, h2, h3, h4, h5⟩ := h.holds he
  have hle := Lib.compact_length_le (ts.map bL)
  rw [List.length_map] at hle
  refine (hS B 0 cap (ts.map bL) w h5 (by simp; omega) (by simpa using h1)).mono ?_
  rintro e w' ⟨rfl, q, rfl⟩
  refine ⟨_, rfl, ?_, ⟨rfl, rfl, rfl, by simp [putRow, mapBlock, Sort.ahead], fun k hk hne => ?_⟩⟩
  · have hb : (putRow encStr (Sort.ahead w q) B 0 (Lib.compact (ts.map bL) ++ List.replicate ((ts.map bL).length - (Lib.compact (ts.map bL)).length) []).toArray).heap[B]? = some (.cells (putCells encStr 0 (Lib.compact (ts.map bL) ++ List.replicate ((ts.map bL).length - (Lib.compact (ts.map bL)).length) []).toArray cur) t (0, 0)) := by
      simp [putRow, mapBlock, Sort.ahead, Array.getElem?_modify, h3, onCells]
    refine ows_cur he hb (by simp [putCells, h4]) (by omega) h2 ?_ (by simp [onceT])
    have hl : (Lib.compact (ts.map bL) ++ List.replicate ((ts.map bL).length - (Lib.compact (ts.map bL)).length) []).length = ts.length := by simp; omega
    have := take_putCells cur (Lib.compact (ts.map bL) ++ List.replicate ((ts.map bL).length - (Lib.compact (ts.map bL)).length) []) (by omega)
    rw [hl] at this
    have h6 : ∀ l : List Value, (l.take ts.length).take (Lib.compact (ts.map bL)).length = l.take (Lib.compact (ts.map bL)).length := fun l => by rw [List.take_take]; congr 1; omega
    rw [← h6, this, List.map_append, List.take_append_of_le_length (by simp), List.take_of_length_le (by simp)]
    simp [onceT, Function.comp_def]
  · simp [putRow, mapBlock, Sort.ahead, Array.getElem?_modify, Ne.symm hne]
/-- Nil, or a slice of one's own that is new since the base. -/
def NewW (s base : Nat) (rs : List (List Value)) (u : Value) (w : World) : Prop := (u = .slice none 0 0 ∧ rs = [] ∧ 0 < s) ∨ ∃ B, base ≤ B ∧ OwS s w u rs B
theorem NewW.below {s base : Nat} {rs : List (List Value)} {u : Value} {w w' : World} (h : NewW s base rs u w) (hb : Below w.heap.size w w') : NewW s base rs u w' := by
  rcases h with h | ⟨B, h1, h2⟩
  · exact .inl h
  · exact .inr ⟨B, h1, h2.below hb⟩
theorem NewW.le {s base n : Nat} {rs : List (List Value)} {u : Value} {w : World} (h : NewW s base rs u w) (hn : n ≤ base) : NewW s n rs u w := by
  rcases h with h | ⟨B, h1, h2⟩
  · exact .inl h
  · exact .inr ⟨B, Nat.le_trans hn h1, h2⟩
theorem NewW.rd {s base : Nat} {rs : List (List Value)} {u : Value} {w : World} (h : NewW s base rs u w) {L : List Nat} (hL : ∀ x ∈ L, x < base) : RdF s L w u rs := by
  rcases h with ⟨rfl, rfl, h0⟩ | ⟨B, h1, h2⟩
  · exact RdF.nil h0
  · exact h2.rd (fun hx => by have := hL B hx; omega)
theorem NewS.own {s base : Nat} {rs : List (List Value)} {u : Value} {w : World} (h : NewS s base rs u w) (hn : rs ≠ []) : ∃ B, base ≤ B ∧ OwS s w u rs B := by
  rcases h with ⟨_, h, _⟩ | ⟨B, sp, h1, rfl, h3, _⟩
  · exact absurd h hn
  · exact ⟨B, h1, h3.own⟩
theorem GrowB.from_base {B B' base : Nat} {w w' : World} (h : GrowB B B' w w') (hB : base ≤ B) (hs : base ≤ w.heap.size) : Below base w w' := ⟨h.os, h.tape, h.output, h.size, fun k hk => h.block k (by omega) (by omega)⟩
theorem sort_new {P : Program} {F : FuncId} {enc : ByteArray → List Value} (he : ∀ s, enc s = [.string s]) (hS : ∀ (blk off cap : Nat) (ss : List (List UInt8)) (w : World), Holds encStr w blk off ss.toArray → blk < w.heap.size → ss.length < 4611686018427387904 → Calls P F #[.slice (some ⟨blk, off, none⟩) ss.length cap] w fun e w' => e = .returned (.tuple #[]) ∧ ∃ n os, w' = grow (putRow encStr (Sort.ahead w n) blk off (ss.mergeSort fun x y => decide (x ≤ y)).toArray) os)
    (hN : ∀ (p : Option Addr) (cap : Nat) (w : World), Calls P F #[.slice p 0 cap] w fun e w' => e = .returned (.tuple #[]) ∧ w' = w)
    {w : World} {v : Value} {ts : List ByteArray} {base : Nat} (h : NewW 1 base (ts.map enc) v w) (hb : base ≤ w.heap.size) (hlen : ts.length ≤ 1000000) : Calls P F [v].toArray w fun e w' => ∃ x, e = .returned x ∧ NewW 1 base ((sortT ts).map enc) v w' ∧ Below base w w' := by
  rcases h with ⟨rfl, h, _⟩ | ⟨B, h1, h2⟩
  · have ht : ts = [] := by simpa using h
    subst ht
    exact (hN none 0 w).mono fun e w' ⟨h1, h2⟩ => ⟨_, h1, .inl ⟨rfl, by simp [sortT], by decide⟩, by rw [h2]; exact Below.refl _ _⟩
  · exact (sort_own he hS h2 hlen).mono fun e w' ⟨x, h3, _, h4, h5⟩ => ⟨x, h3, .inr ⟨B, h1, h4⟩, h5.from_base h1 hb⟩
theorem once_new {P : Program} {F : FuncId} {enc : ByteArray → List Value} (he : ∀ s, enc s = [.string s]) (hS : ∀ (blk off cap : Nat) (zs : List (List UInt8)) (w : World), Holds encStr w blk off zs.toArray → zs.length ≤ 9223372036854775807 → zs.length ≤ cap → Calls P F #[.slice (some ⟨blk, off, none⟩) zs.length cap] w fun e w' => e = .returned (.slice (some ⟨blk, off, none⟩) (Lib.compact zs).length cap) ∧ ∃ q, w' = putRow encStr (Sort.ahead w q) blk off (Lib.compact zs ++ List.replicate (zs.length - (Lib.compact zs).length) []).toArray)
    (hN : ∀ (p : Option Addr) (cap : Nat) (w : World), Calls P F #[.slice p 0 cap] w fun e w' => e = .returned (.slice p 0 cap) ∧ w' = w)
    {w : World} {v : Value} {ts : List ByteArray} {base : Nat} (h : NewW 1 base (ts.map enc) v w) (hb : base ≤ w.heap.size) (hlen : ts.length ≤ 1000000) : Calls P F [v].toArray w fun e w' => ∃ x, e = .returned x ∧ NewW 1 base ((onceT ts).map enc) x w' ∧ Below base w w' := by
  rcases h with ⟨rfl, h, _⟩ | ⟨B, h1, h2⟩
  · have ht : ts = [] := by simpa using h
    subst ht
    exact (hN none 0 w).mono fun e w' ⟨h1, h2⟩ => ⟨_, h1, .inl ⟨rfl, by simp [onceT, Lib.compact, Lib.compactUpTo], by decide⟩, by rw [h2]; exact Below.refl _ _⟩
  · exact (once_own he hS h2 hlen).mono fun e w' ⟨x, h3, h4, h5⟩ => ⟨x, h3, .inr ⟨B, h1, h4⟩, h5.from_base h1 hb⟩
section
variable {P : Program} {ops : Array Oper} {o : Oper} {N : Nat} {f : Fl} {w : World} {R : Value → World → Prop}
/-- A slice of two that is written out, of elements of one cell. -/
theorem dx_lit2 {t bytes : Nat} {x y : Operand} {V U : Value} (ho : o.op = .buildSlice t 2 #[(0, x), (1, y)]) (ht : apB P t 1 bytes = true) (hx : ev f x = some V) (hy : ev f y = some U) (hV : V.cells.toList = [V]) (hU : U.cells.toList = [U]) (hw : wantF ops o f = some true := by rfl) : DR P ops o N f w (NewO 1 w [[V], [U]]) := by
  have hV : V.cells = #[V] := Array.ext' hV
  have hU : U.cells = #[U] := Array.ext' hU
  obtain ⟨e, i, Z, hu, hi, hZ, hs, rfl, hzs⟩ := of_apB ht
  refine dx_lit (ps := [(0, V), (1, U)]) (rs := [[V], [U]]) ho hu hi hZ hs (by decide) (by simp [evl, hx, hy]) (by omega) ?_ (by simp) rfl (by unfold maxLen; omega) hw
  rw [if_neg (by decide)]
  have hl : ∀ c : Array Value, c.size = 2 → Instr.fill (fun k => some (k * 1, 1)) c [(0, V), (1, U)] = some #[V, U] := fun c hc => by
    obtain ⟨l⟩ := c
    match l, hc with
    | [a, b], _ => simp [Instr.fill, hV, hU]
  exact hl _ (by simp)
/-- A cell of an element of a slice of one's own, stored. -/
theorem dx_storeF {t s B k j o0 : Nat} {x y : Operand} {V v : Value} {rs : List (List Value)} {r : List Value} (ho : o.op = .store t x y) (ht : sizeB P t 1 = true) (hx : ev f x = some (.pointer (some ⟨B, o0, none⟩))) (hy : ev f y = some V) (hv : V.cells.toList = [V]) (h1 : V.oneCell' = true)
    (hr : OwS s w v rs B) (hk : k * s + j = o0) (hi : rs[k]? = some r) (hj : j < s) (hw : wantF ops o f = some true := by rfl) : DR P ops o N f w fun _ W => OwS s W v (rs.set k (r.set j V)) B ∧ Only B w W := by
  obtain ⟨h0, hrl, cap, sp, rfl, h2, h3, h4, h5⟩ := hr
  obtain ⟨hkl, hrk⟩ := List.getElem?_eq_some_iff.1 hi
  have hl : r.length = s := hrl r (List.mem_of_getElem? hi)
  have hlen : (k + 1) * s ≤ rs.flatten.length := by rw [flat_len hrl]; exact Nat.mul_le_mul_right _ hkl
  rw [Nat.succ_mul] at hlen
  have hf := flat_set hrl (r' := r.set j V) (by rw [List.length_set]; exact hl) hkl sp
  refine (dx_store (cs' := (rs.set k (r.set j V)).flatten ++ sp) (vs := [V]) ho ht hx hy hv (oc_cons h1 oc_nil) h5 rfl (by rw [List.length_append]; omega) ?_ hw).mono fun _ W h => ⟨⟨h0, fun r' hr' => ?_, cap, sp, by rw [List.length_set], by rw [List.length_set]; exact h2, h3, by rw [List.length_set]; exact h4, h.1⟩, h.2⟩
  · rw [← hf, ← hk]
    have hd : (rs.flatten ++ sp).drop (k * s) = r ++ (rs.flatten ++ sp).drop (k * s + s) := by
      have e1 : (rs.flatten ++ sp).drop (k * s) = ((rs.flatten ++ sp).drop (k * s)).take s ++ ((rs.flatten ++ sp).drop (k * s)).drop s := (List.take_append_drop _ _).symm
      have e2 : ((rs.flatten ++ sp).drop (k * s)).take s = r := by
        rw [List.drop_append_of_le_length (by omega), List.take_append_of_le_length (by rw [List.length_drop]; omega)]
        exact flat_row hrl hi
      rw [e1, e2, List.drop_drop]
    have hrs : r.set j V = r.take j ++ ([V] ++ r.drop (j + 1)) := by rw [List.set_eq_take_append_cons_drop, if_pos (by omega)]; rfl
    have e3 : (rs.flatten ++ sp).take (k * s + j) = (rs.flatten ++ sp).take (k * s) ++ r.take j := by
      rw [List.take_add, hd]
      congr 1
      exact List.take_append_of_le_length (by omega)
    have e4 : (rs.flatten ++ sp).drop (k * s + j + 1) = r.drop (j + 1) ++ (rs.flatten ++ sp).drop (k * s + s) := by
      rw [show k * s + j + 1 = k * s + (j + 1) by omega, ← List.drop_drop, hd, List.drop_append_of_le_length (by omega)]
    rw [e3, e4, hrs]
    simp [List.append_assoc]
  · rcases List.mem_or_eq_of_mem_set hr' with h | h
    · exact hrl r' h
    · rw [h, List.length_set]; exact hl
/-- An append to what is new. -/
theorem dx_apW {t s bytes base : Nat} {x y : Operand} {u v2 : Value} {rs news : List (List Value)} {L : List Nat} (ho : o.op = .call { callee := .builtin .append, args := #[x, y], argTypes := #[t, t] }) (ht : apB P t s bytes = true) (hx : ev f x = some u) (hy : ev f y = some v2)
    (h : NewW s base rs u w) (h2 : RdF s L w v2 news) (h1 : ∀ r ∈ news, ∀ u ∈ r, u.oneCell' = true) (hm : rs.length + news.length ≤ maxLen) (hby : (rs.length + news.length) * bytes ≤ 140737488355328) (hb : base ≤ w.heap.size) (hw : wantF ops o f = some true := by rfl) : DR P ops o N f w fun u' W => NewW s base (rs ++ news) u' W ∧ Below base w W := fun a ha => by
  rcases h with ⟨rfl, rfl, h0⟩ | ⟨B, hB, hO⟩
  · by_cases hn : news = []
    · subst hn
      obtain ⟨e, q, Z, hu, hi, hz, rfl, rfl, hzs⟩ := of_apB ht
      have hx := ha.ev hx
      have hy := ha.ev hy
      obtain ⟨_, hl2, a2, cap2, rfl, hd1, hd2, hd3, hd4⟩ := h2
      have hr0 : (Builtin.append_ #[t, t] o.type #[.slice none 0 0, .slice a2 0 cap2]).run P w = .ok (.slice none 0 0) w := by
        cases a2 with
        | none => simp [Builtin.append_, run_underlying hu, sizeOf, typeInfo, hi, Builtin.lenOf, Builtin.firstCells, storeCells]
        | some a2 => simp [Builtin.append_, run_underlying hu, sizeOf, typeInfo, hi, Builtin.lenOf, Builtin.firstCells, loadCells, loadCellsFrom, storeCells]
      refine Does.of_wp (wantF_of ha hw) fun K hK => ?_
      unfold Oper.wp execOp
      simp only [List.length_nil] at hy
      simp only [ho, resolve, invoke, builtin, Sem.run_bind, Sem.run_pure, Result.andThen_ok, List.map_toArray, List.map_cons, List.map_nil, hx, hy, hr0]
      exact hK _ _ ⟨.inl ⟨rfl, rfl, h0⟩, Below.refl _ _⟩
    · refine Does.mono (dx_apF (rs := []) ho ht hx hy (RdF.nil (L := L) h0) h2 hn hm hby hw a ha) fun v W ⟨k1, k2, k3⟩ => ⟨.inr ⟨_, hb, k1⟩, k2.mono hb⟩
  · exact Does.mono (dx_apO' ho ht hx hy hO h2 h1 hm hby hw a ha) fun v W ⟨B', k1, k2⟩ => ⟨.inr ⟨B', k2.le hB hb, k1⟩, k2.from_base hB hb⟩
/-- nil[:0] and nil[0:0]. -/
theorem dx_slNH {t s : Nat} {x y : Operand} {K : IntKind} (ho : o.op = .slice t x none (some y) none) (ht : sliceB P t s = true) (hx : ev f x = some (.slice none 0 0)) (hy : ev f y = some (.int K 0)) (hw : wantF ops o f = some true := by rfl) : DV P ops o N f w (.slice none 0 0) := fun a ha => by
  obtain ⟨e, hu, hs⟩ := of_sliceB ht
  have hx := ha.ev hx
  have hy := ha.ev hy
  cases hi : P.info? e with
  | none => rw [hi] at hs; cases hs
  | some q =>
    refine Does.pure (wantF_of ha hw) _ ?_ ⟨rfl, rfl⟩
    unfold execOp
    simp only [ho, Option.map_none, Option.map_some, hx, hy, Instr.sliceAt, Sem.run_bind, run_underlying hu, Result.andThen_ok, Instr.slice, Instr.sliceBounds, Instr.sliceBound, asIntOf, Sem.run_pure, sizeOf, typeInfo, run_program, hi]
    rw [if_pos (by decide)]
    exact rfl
/-- An append of zeros to nil: room for so many. -/
theorem dx_apZ0 {t tn s bytes : Nat} {K kn : IntKind} {x y : Operand} {j : Int} (m : Nat) (ho : o.op = .call { callee := .builtin .append, args := #[x, y], argTypes := #[t, tn] }) (ht : apB P t s bytes = true) (htn : P.underlying tn = some (.int kn)) (hs : 0 < s) (hx : ev f x = some (.slice none 0 0)) (hy : ev f y = some (.int K j)) (hj : j = (m : Int)) (hm0 : 0 < m) (hm : m ≤ 1000000) (hby : m * bytes ≤ 140737488355328) (hw : wantF ops o f = some true := by rfl) :
    DR P ops o N f w fun u W => ∃ c, u = .slice (some ⟨w.heap.size, 0, none⟩) m c ∧ m ≤ c ∧ OwS s W (.slice (some ⟨w.heap.size, 0, none⟩) 0 c) [] w.heap.size ∧ Below w.heap.size w W ∧ w.heap.size < W.heap.size := fun a ha => by
  subst hj
  obtain ⟨e, q, Z, hu, hi', hz, rfl, rfl, hzs⟩ := of_apB ht
  have hx := ha.ev hx
  have hy := ha.ev hy
  have hrun := Lib.run_append_nil_zeros (P := P) w t tn o.type e q Z K kn hu htn hi' hz m hm0 hs (by omega) (by omega)
  have hge : m ≤ grownCap w m 0 e := by have := grownCap_ge w m 0 e; omega
  refine Does.of_wp (wantF_of ha hw) fun K hK => ?_
  unfold Oper.wp execOp
  simp only [ho, resolve, invoke, builtin, Sem.run_bind, Sem.run_pure, Result.andThen_ok, List.map_toArray, List.map_cons, List.map_nil, hx, hy, hrun]
  refine hK _ _ ⟨_, rfl, hge, ⟨hs, by simp, grownCap w m 0 e, (Builtin.zeroCells Z.cells m ++ Builtin.zeroCells Z.cells (grownCap w m 0 e - m)).toList, by simp, by simp, grownCap_le_maxLen _ _ _ _ (by unfold maxLen; omega), ?_, e, ?_⟩, below_alloc (below_draws (Below.refl _ _) 1) _, ?_⟩
  · rw [Array.length_toList, Array.size_append, size_zeroCells, size_zeroCells, hzs, ← Nat.add_mul, List.length_nil, Nat.sub_zero]
    congr 1
    omega
  · rw [show w.heap.size = w.drew.heap.size from (World.size_drew w).symm, heap_alloc_new]
    simp
  · rw [World.size_alloc, World.size_drew]
    omega
end
end Go.Proofs.YthefddclefimoaaDoor
