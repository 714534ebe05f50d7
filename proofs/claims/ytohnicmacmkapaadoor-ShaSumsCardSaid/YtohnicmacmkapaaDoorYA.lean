/- Plain words of ours on slices that are read, on worlds that have grown, and on bytes. No program stands here. Laws of ours over the walk: an append to a slice of the call's own, whatever is appended; a slice cut at its beginning. Laws of ours: a row of numbers that the call may write; a text as bytes, bytes as a text. Laws of ours over the walk: an array of numbers, as one value that no rule opens, and as a row of memory. Bit by bit: what a disjunction of numbers apart, and a mask, come to. The rounds of sha: rotations, the closures of both widths; what the rounds' variable holds. The rounds of sha: begin. The rounds of sha: schedule. The rounds of sha: take. The rounds of sha: tell; the sizes of blocks. A law of ours on regions whose order is drawn: each operation is shown once, from what holds of the operations that it waits for; what was shown of one stays true while the others run. No program stands here. One operation of a region, kind by kind, for the law on drawn orders. A law of ours on regions whose order is drawn and that make several variables and store into each: each operation is shown once. No program stands here. Package scalar's Clamp, and the reference's. Arrays of numbers: whether two are the same; one that is written out. Rows of numbers of which a part is loaded or stored; addresses of fields and elements. No program stands here. Slices whose elements are rows of numbers: an element's address; a new one of zeros. No program stands here. The rounds of sha:  -/
import Derived.Test.YtohnicmacmkapaaDoorRows
import Derived.WalkKit
import Derived.ProofKit
import Derived.OpenShut
import Derived.Handy
import Derived.Lib.Hide
import Derived.Outline
import Derived.Deep.QuietTactic
import Derived.BigQuiet
import Derived.Carry
import Derived.Laws.AppendOwnNone
import Derived.Laws.BytesArg
import Derived.Laws.IdiomStrings
import Derived.Laws.Rows
import Derived.KernelRfl
import Derived.Laws.BitsAllLaws
import Derived.Laws.Closers25b
import Derived.RegionTactic
import Derived.Deep.RegionWith
import Derived.Deep.RegionHeld3
import Derived.StillTailTactics
import Derived.Laws.Bits64
import Derived.Laws.Tables
import Derived.Laws.CopyRow
import Derived.ChangeKeysEq
import Derived.Laws.StructEq
import Derived.Deep.MidRow
import Derived.Lib.SlBuf
import Derived.Laws.MakeOwn
namespace Go.Proofs.YtohnicmacmkapaaDoor
open Go.RowKit
set_option linter.unusedVariables false

/-- The number at a place, as a word that no rewriting opens. -/
def at0 (l : List Int) (k : Nat) : Int := l[k]?.getD 0
theorem at0_lt {l : List Int} {k : Nat} (h : k < l.length) : at0 l k = l[k] := by simp [at0, h]
theorem at0_mem {l : List Int} {k : Nat} (h : k < l.length) : at0 l k ∈ l := by rw [at0_lt h]; exact List.getElem_mem _
theorem at0_cons_zero (x : Int) (l : List Int) : at0 (x :: l) 0 = x := rfl
theorem at0_cons_succ (x : Int) (l : List Int) (k : Nat) : at0 (x :: l) (k + 1) = at0 l k := by simp [at0]
theorem at0_drop (l : List Int) (i k : Nat) : at0 (l.drop i) k = at0 l (i + k) := by simp [at0]
/-- All are bytes. -/
def Bytes (l : List Int) : Prop := ∀ x ∈ l, 0 ≤ x ∧ x ≤ 255
theorem Bytes.at {l : List Int} (h : Bytes l) (k : Nat) : 0 ≤ at0 l k ∧ at0 l k ≤ 255 := by
  by_cases hk : k < l.length
  · exact h _ (at0_mem hk)
  · simp [at0, hk]
theorem Bytes.drop {l : List Int} (h : Bytes l) (k : Nat) : Bytes (l.drop k) := fun x hx => h x (List.mem_of_mem_drop hx)
theorem Bytes.append {l m : List Int} (h : Bytes l) (k : Bytes m) : Bytes (l ++ m) := fun x hx => (List.mem_append.1 hx).elim (h x) (k x)
theorem eq_of_all {la lb : List Int} (hl : la.length = lb.length) (h : ∀ j, j < la.length → at0 la j = at0 lb j) : la = lb := by
  apply List.ext_getElem hl
  intro i h1 h2
  have := h i h1
  rwa [at0_lt h1, at0_lt h2] at this

/-- A slice value that holds these integers, of one kind. -/
def RdI (K : IntKind) (w : World) (v : Value) (zs : List Int) : Prop :=
  ∃ a cap, v = .slice a zs.length cap ∧ zs.length ≤ cap ∧ cap ≤ maxLen ∧ (∀ k, k < zs.length → ∃ x o, a = some ⟨x, o, none⟩ ∧ w.cell? ⟨x, o + k, none⟩ = some (.int K (at0 zs k))) ∧ (a = none → cap = 0)

theorem below_drewN {B : Nat} {a w : World} (h : Below B a w) (n : Nat) : Below B a (w.drewN n) := ⟨h.os, h.tape, h.output, h.size, h.block⟩

theorem RdI.below {K : IntKind} {w w' : World} {v : Value} {zs : List Int} (h : RdI K w v zs) (hb : Below w.heap.size w w') : RdI K w' v zs := by
  obtain ⟨a, cap, rfl, h1, h2, h3, h4⟩ := h
  refine ⟨a, cap, rfl, h1, h2, fun k hk => ?_, h4⟩
  obtain ⟨x, o, rfl, hc⟩ := h3 k hk
  exact ⟨x, o, rfl, by rw [hb.cell (World.block_lt_of_cell? w _ hc)]; exact hc⟩

theorem RdI.drewN {K : IntKind} {w : World} {v : Value} {zs : List Int} (h : RdI K w v zs) (n : Nat) : RdI K (w.drewN n) v zs := h.below (below_drewN (Below.refl _ _) n)

theorem RdI.nil {K : IntKind} {w : World} : RdI K w (.slice none 0 0) [] := ⟨none, 0, rfl, Nat.le_refl _, by unfold maxLen; omega, fun k hk => by simp at hk, fun _ => rfl⟩

theorem own_cell {w : World} {base e : Nat} {v : Value} {n : Nat} {xs : List Value} (h : w.ownsRow base e 1 v n xs) :
    ∃ a cap, v = .slice a n cap ∧ n ≤ cap ∧ cap ≤ maxLen ∧ xs.length = n ∧ (∀ k, k < n → ∃ x, a = some ⟨x, 0, none⟩ ∧ base ≤ x ∧ w.cell? ⟨x, k, none⟩ = xs[k]?) ∧ (a = none → cap = 0) := by
  obtain ⟨hl, h2⟩ := h
  rw [Nat.mul_one] at hl
  rcases h2 with ⟨rfl, rfl⟩ | ⟨g, cap, cur, rfl, hb, hh, hn, hm, hs, ht⟩
  · exact ⟨none, 0, rfl, Nat.le_refl _, by unfold maxLen; omega, hl, fun k hk => by omega, fun _ => rfl⟩
  · refine ⟨_, cap, rfl, hn, hm, hl, fun k hk => ⟨g, rfl, hb, ?_⟩, fun h => by cases h⟩
    rw [Nat.mul_one] at ht
    rw [← ht, List.getElem?_take, if_pos hk]
    simp [World.cell?, hh]

theorem RdI.of_own {K : IntKind} {w : World} {base e : Nat} {v : Value} {n : Nat} {zs : List Int} (h : w.ownsRow base e 1 v n (zs.map (Value.int K))) : RdI K w v zs := by
  obtain ⟨a, cap, rfl, h1, h2, h3, h4, h5⟩ := own_cell h
  have hn : n = zs.length := by simpa using h3.symm
  subst hn
  refine ⟨a, cap, rfl, h1, h2, fun k hk => ?_, h5⟩
  obtain ⟨x, rfl, _, hc⟩ := h4 k hk
  exact ⟨x, 0, rfl, by rw [Nat.zero_add, hc]; simp [hk, at0]⟩

theorem own_below {w w' : World} {base e size : Nat} {v : Value} {n : Nat} {xs : List Value} (h : w.ownsRow base e size v n xs) (hb : Below w.heap.size w w') : w'.ownsRow base e size v n xs :=
  h.kept (row := none) ⟨hb.os, hb.tape, hb.output, hb.size, fun k hk _ => hb.block k hk⟩ (by cases h' : v.ownBlock <;> simp)

/-- What is below the heap's size of a later world is below an earlier one's. -/
theorem below_then {a b c : World} (h : Below a.heap.size a b) (k : Below b.heap.size b c) : Below a.heap.size a c := h.trans (k.mono h.size)

theorem below_alloc {a b : World} (h : Below a.heap.size a b) (o : Obj) : Below a.heap.size a (b.alloc o) := h.alloc h.size o
theorem below_draws {a b : World} (h : Below a.heap.size a b) (n : Nat) : Below a.heap.size a (b.drewN n) := below_drewN h n
end Go.Proofs.YtohnicmacmkapaaDoor
namespace Go.Proofs.YtohnicmacmkapaaDoor
open Go.RowKit
set_option linter.unusedVariables false

/-- The cells of what is appended: each is there, read from the world. -/
def Reads (w : World) (a : Option Addr) (m : Nat) (news : List Value) : Prop := news.length = m ∧ ∀ j, j < m → ∃ x o, a = some ⟨x, o, none⟩ ∧ w.cell? ⟨x, o + j, none⟩ = news[j]?

theorem reads_rd {K : IntKind} {w : World} {a : Option Addr} {zs : List Int} (h : ∀ k, k < zs.length → ∃ x o, a = some ⟨x, o, none⟩ ∧ w.cell? ⟨x, o + k, none⟩ = some (.int K (at0 zs k))) :
    Reads w a zs.length (zs.map (Value.int K)) := by
  refine ⟨by simp, fun j hj => ?_⟩
  obtain ⟨x, o, e, hc⟩ := h j hj
  exact ⟨x, o, e, by rw [hc]; simp [at0, hj]⟩

theorem reads_one {w : World} {v : Value} {e : TypeId} : Reads (w.alloc (.cells #[v] e)) (some ⟨w.heap.size, 0, none⟩) 1 [v] :=
  ⟨rfl, fun j hj => ⟨_, _, rfl, by obtain rfl : j = 0 := by omega
                                   rw [World.cell?_alloc_at _ _ _ _ rfl]; rfl⟩⟩

theorem wpList_append_rd {P : Program} {w : World} {ops : Array Oper} {rest : List Oper} {o : Oper} {a : Act} {Q : Exit → Act → World → Prop} (hgd : Region.wanted o (yielded ops a.tmps) = true) (s x : Operand) (t : TypeId)
    (ho : o.op = .call { callee := .builtin .append, args := #[s, x], argTypes := #[t, t] })
    (base : Nat) (e : TypeId) (i : TypeInfo) (z : Value) (bytes : Nat) (ht : P.underlying t = some (.slice e)) (hi : P.info? e = some i) (hz : i.zero = some z)
    (hsize : i.size = 1) (hby : i.bytes = bytes) (hzs : z.cells.size = 1)
    (v : Value) (n : Nat) (xs : List Value) (hs : a.eval s = v) (hown : w.ownsRow base e 1 v n xs)
    (ad : Option Addr) (m c : Nat) (news : List Value) (hx : a.eval x = .slice ad m c) (hr : Reads w ad m news) (h1 : ∀ u ∈ news, u.oneCell' = true)
    (h63 : n + m ≤ maxLen) (hbytes : (n + m) * bytes ≤ 140737488355328) (hbase : base ≤ w.heap.size) (hcn : ad = none → c = 0)
    (h : ∀ v' w', w'.ownsRow base e 1 v' (n + m) (xs ++ news) → w.grownBy w' v.ownBlock → Below base w w' → wpList P ops Q rest (a.put o.dst v') w') : wpList P ops Q (o :: rest) a w := by
  obtain ⟨hl, hnews⟩ := hr
  cases ad with
  | none =>
    obtain rfl := hcn rfl
    obtain rfl : m = 0 := by
      cases m with
      | zero => rfl
      | succ k => obtain ⟨x, o, h, _⟩ := hnews 0 (by omega); cases h
    obtain rfl : news = [] := List.eq_nil_of_length_eq_zero hl
    have hrun := run_append_owned_none (P := P) (w := w) base t o.type e i 1 ht hi v n xs hown
    unfold wpList
    rw [if_pos hgd]
    left
    unfold Oper.wp
    simp [execOp, ho, resolve, invoke, builtin, hs, hx, hrun, Result.andThen]
    exact h v w (by simpa using hown) ⟨rfl, rfl, rfl, Nat.le_refl _, fun _ _ _ => rfl⟩ (Below.refl _ _)
  | some ad =>
    have hc : ∀ j u, news[j]? = some u → w.cell? (ad.add j) = some u := fun j u hu => by
      have hj : j < m := by
        have := (List.getElem?_eq_some_iff.1 hu).1
        omega
      obtain ⟨x, o, he, hc⟩ := hnews j hj
      cases he
      rw [Addr.add_lit, hc, hu]
    unfold wpList
    rw [if_pos hgd]
    left
    refine wp_append_own w s x t ho base e i z 1 bytes ht hi hz hsize hby hzs (by omega) v n xs hs hown ad m c news hx (by omega) hc h1 h63 hbytes hbase ?_
    intro v' w' ho' hg _
    exact h v' w' ho' hg ((Below.refl _ _).grown hg hbase (fun k hk => (hown.lt k hk).1))

/-- A slice, cut at its beginning, as the walk writes it. -/
theorem rd_cut {K : IntKind} {w : World} {ad : Option Addr} {cap n k : Nat} {zs : List Int} (hr : RdI K w (.slice ad n cap) zs) (h1 : k ≤ n) :
    RdI K w (.slice (if cap = k then ad else ad.map (·.add k)) (n - k) (cap - k)) (zs.drop k) := by
  obtain ⟨a', cap', he, hc1, hc2, hc3, hc4⟩ := hr
  cases he
  refine ⟨if cap = k then ad else ad.map (·.add k), cap - k, by simp, by simp; omega, by unfold maxLen at *; omega, fun j hj => ?_, fun hn => ?_⟩
  rotate_left
  · by_cases hne : cap = k
    · omega
    · rw [if_neg hne] at hn
      have := hc4 (by cases ad with
        | none => rfl
        | some y => cases hn)
      omega
  simp only [List.length_drop] at hj
  obtain ⟨x, o, rfl, hc⟩ := hc3 (k + j) (by omega)
  have hne : cap ≠ k := by omega
  refine ⟨x, o + k, ?_, ?_⟩
  · rw [if_neg hne]
    simp [Addr.add_lit]
  · rw [at0_drop, Nat.add_assoc]
    exact hc
end Go.Proofs.YtohnicmacmkapaaDoor
namespace Go.Proofs.YtohnicmacmkapaaDoor
open Go.RowKit
set_option linter.unusedVariables false

/-- Block B holds these numbers from its head on, and each may be written. -/
def BRow (K : IntKind) (w : World) (B : Nat) (zs : List Int) : Prop :=
  ∃ cur e fz, w.heap[B]? = some (.cells cur e fz) ∧ zs.length ≤ cur.size ∧ ∀ j, j < zs.length → cur[j]? = some (.int K (at0 zs j)) ∧ ¬ (fz.1 ≤ j ∧ j < fz.2)

theorem BRow.cell {K : IntKind} {w : World} {B : Nat} {zs : List Int} (h : BRow K w B zs) {k : Nat} (hk : k < zs.length) : w.cell? ⟨B, k, none⟩ = some (.int K (at0 zs k)) := by
  obtain ⟨cur, e, fz, h1, h2, h3⟩ := h
  simp [World.cell?, h1, (h3 k hk).1]
theorem BRow.free {K : IntKind} {w : World} {B : Nat} {zs : List Int} (h : BRow K w B zs) {k : Nat} (hk : k < zs.length) : w.frozen? ⟨B, k, none⟩ = false := by
  obtain ⟨cur, e, ⟨lo, hi⟩, h1, h2, h3⟩ := h
  have := (h3 k hk).2
  simp only [World.frozen?, h1]
  simp at this ⊢
  exact this
theorem at0_set (zs : List Int) (k j : Nat) (x : Int) (hk : k < zs.length) : at0 (zs.set k x) j = if j = k then x else at0 zs j := by
  unfold at0
  by_cases h : j = k
  · subst h; simp [hk]
  · rw [if_neg h, List.getElem?_set_ne (by omega)]
theorem BRow.set {K : IntKind} {w : World} {B : Nat} {zs : List Int} (h : BRow K w B zs) {k : Nat} (hk : k < zs.length) (x : Int) : BRow K (w.setCell ⟨B, k, none⟩ (.int K x)) B (zs.set k x) := by
  obtain ⟨cur, e, fz, h1, h2, h3⟩ := h
  refine ⟨cur.setIfInBounds k (.int K x), e, fz, ?_, by simpa using h2, fun j hj => ?_⟩
  · simp [World.setCell, Array.getElem?_modify, h1]
  · simp only [List.length_set] at hj
    refine ⟨?_, (h3 j hj).2⟩
    rw [at0_set zs k j x hk]
    by_cases hjk : j = k
    · subst hjk
      have : j < cur.size := by omega
      simp [this]
    · rw [if_neg hjk, Array.getElem?_setIfInBounds_ne (by omega)]
      exact (h3 j hj).1
theorem BRow.below {K : IntKind} {w w' : World} {B : Nat} {zs : List Int} (h : BRow K w B zs) (hb : Below w.heap.size w w') : BRow K w' B zs := by
  obtain ⟨cur, e, fz, h1, h2, h3⟩ := h
  exact ⟨cur, e, fz, by rw [hb.block B (Array.getElem?_eq_some_iff.1 h1).1]; exact h1, h2, h3⟩
theorem BRow.lt {K : IntKind} {w : World} {B : Nat} {zs : List Int} (h : BRow K w B zs) : B < w.heap.size := by
  obtain ⟨cur, e, fz, h1, h2, h3⟩ := h
  exact (Array.getElem?_eq_some_iff.1 h1).1
theorem BRow.rd {K : IntKind} {w : World} {B cap : Nat} {zs : List Int} (h : BRow K w B zs) (h1 : zs.length ≤ cap) (h2 : cap ≤ maxLen) : RdI K w (.slice (some ⟨B, 0, none⟩) zs.length cap) zs :=
  ⟨_, cap, rfl, h1, h2, fun k hk => ⟨B, 0, rfl, by rw [Nat.zero_add]; exact h.cell hk⟩, fun h => by cases h⟩

/-- A text's bytes as numbers. -/
def sb (s : ByteArray) : List Int := s.data.toList.map fun c => (c.toNat : Int)
theorem sb_length (s : ByteArray) : (sb s).length = s.size := by simp [sb]
theorem sb_bytes (s : ByteArray) : Bytes (sb s) := by
  intro x hx
  simp only [sb, List.mem_map] at hx
  obtain ⟨c, _, rfl⟩ := hx
  have := c.toNat_lt
  omega
theorem at0_sb (s : ByteArray) (k : Nat) (h : k < s.size) : at0 (sb s) k = (s[k].toNat : Int) := by
  have h' : k < (sb s).length := by rw [sb_length]; exact h
  rw [at0_lt h']
  simp [sb]
  rfl
theorem strOf_sb (s : ByteArray) : strOfNums (sb s) = s := by
  cases s with
  | mk d =>
    simp only [strOfNums, sb, List.map_map]
    congr 1
    have : (fun n : Int => UInt8.ofNat n.toNat) ∘ (fun c : UInt8 => (c.toNat : Int)) = id := by
      funext c
      simp
    rw [this]
    simp
theorem sb_strOf {l : List Int} (h : Bytes l) : sb (strOfNums l) = l := by
  simp only [sb, strOfNums_data, List.map_map]
  have : ∀ x ∈ l, ((fun c : UInt8 => (c.toNat : Int)) ∘ fun n : Int => UInt8.ofNat n.toNat) x = x := by
    intro x hx
    have := h x hx
    simp only [Function.comp, UInt8.toNat_ofNat']
    omega
  rw [List.map_congr_left this]
  simp
theorem str_eq_yes {a b : ByteArray} (h : a = b) : (a.toList == b.toList) = true := by subst h; simp
theorem str_eq_no {a b : ByteArray} (h : ¬ a = b) : (a.toList == b.toList) = false := by
  rw [beq_eq_false_iff_ne]
  intro e
  apply h
  rw [ByteArray.toList_eq, ByteArray.toList_eq] at e
  cases a; cases b
  congr 1
  exact Array.toList_inj.1 e
theorem sb_inj {a b : ByteArray} (h : sb a = sb b) : a = b := by rw [← strOf_sb a, h, strOf_sb]

section
variable {P : Program} {w : World} {ops : Array Oper} {rest : List Oper} {o : Oper} {a : Act} {Q : Exit → Act → World → Prop}
theorem wpList_conv_sb (hgd : o.guard = none) (x : Operand) (src dst e : TypeId) (ho : o.op = .convert src dst x) (hs : P.underlying src = some .string) (hd : P.underlying dst = some (.slice e)) (he : P.underlying e = some (.int .u8))
    (s : ByteArray) (hx : a.eval x = .string s) (hm : s.size ≤ maxLen)
    (h : ∀ w1 cap, s.size ≤ cap → cap ≤ maxLen → BRow .u8 w1 w.heap.size (sb s) → Below w.heap.size w w1 → wpList P ops Q rest (a.put o.dst (.slice (some ⟨w.heap.size, 0, none⟩) s.size cap)) w1) : wpList P ops Q (o :: rest) a w := by
  refine wpList_plain hgd fun Kq hK => ?_
  unfold Oper.wp
  simp only [execOp, ho, hx]
  have hrun := run_bytes_of_string (P := P) w src dst e s hs hd he
  simp only [Sem.run_bind, hrun, Result.andThen]
  have hge := grownCap_ge w s.size 0 e
  refine hK _ _ (h _ _ hge (grownCap_le_maxLen w s.size 0 e hm) ⟨_, _, _, heap_alloc_new w.drew _, ?_, fun j hj => ⟨?_, ?_⟩⟩ ((Below.refl _ _).drew.alloc (Nat.le_refl _) _))
  · rw [sb_length]; simp [bytesRow]
  · rw [sb_length] at hj
    have hjs : j < s.data.size := hj
    rw [at0_sb s j hj]
    simp only [bytesRow, Array.getElem?_append]
    rw [if_pos (by simpa using hj)]
    simp only [Array.getElem?_map, Array.getElem?_eq_getElem hjs, Option.map_some]
    rfl
  · rw [sb_length] at hj
    simp [bytesRow]
    have : s.data.size = s.size := rfl
    omega
theorem run_conv_bs (src dst e : TypeId) (hs : P.underlying src = some (.slice e)) (hd : P.underlying dst = some .string) (he : P.underlying e = some (.int .u8))
    (v : Value) (zs : List Int) (hx : RdI .u8 w v zs) : (convert src dst v).run P w = .ok (.string (strOfNums zs)) w := by
  obtain ⟨ad, cap, rfl, h1, h2, h3, h4⟩ := hx
  by_cases h0 : zs.length = 0
  · obtain rfl := List.eq_nil_of_length_eq_zero h0
    rw [run_convert_bytes_string w src dst e _ _ _ hs he hd]
    cases ad with
    | none => simp [Conv.bytesToString, strOfNums]; rfl
    | some ad =>
      rw [← run_convert_bytes_string w src dst e (some ad) _ cap hs he hd]
      obtain ⟨b, off, sp⟩ := ad
      cases sp with
      | none => exact run_convert_bytes_arg w src e hs he b off 0 cap [] rfl (fun i hi => by omega) dst hd
      | some sp =>
        rw [run_convert_bytes_string w src dst e _ _ _ hs he hd]
        simp [Conv.bytesToString, strOfNums, loadCells, loadCellsFrom]
        rfl
  · obtain ⟨x, o, rfl, _⟩ := h3 0 (by omega)
    refine run_convert_bytes_arg w src e hs he x o zs.length cap zs rfl (fun i hi => ?_) dst hd
    obtain ⟨x', o', he2, hc⟩ := h3 i hi
    cases he2
    rw [hc]
    simp [at0, List.getD]
end
end Go.Proofs.YtohnicmacmkapaaDoor
namespace Go.Proofs.YtohnicmacmkapaaDoor
open Go.RowKit
set_option linter.unusedVariables false

/-- An array of numbers of one kind. -/
def aggI (K : IntKind) (zs : List Int) : Value := .agg (zs.map (Value.int K)).toArray
/-- Block B is an array that holds these numbers and nothing else, all of it free. -/
def Arr (K : IntKind) (w : World) (B : Nat) (zs : List Int) : Prop := ∃ t, w.heap[B]? = some (.cells (zs.map (Value.int K)).toArray t (0, 0))

theorem Arr.row {K : IntKind} {w : World} {B : Nat} {zs : List Int} (h : Arr K w B zs) : BRow K w B zs := by
  obtain ⟨t, h⟩ := h
  refine ⟨_, t, _, h, by simp, fun j hj => ⟨by simp [hj, at0], by simp⟩⟩
theorem Arr.below {K : IntKind} {w w' : World} {B : Nat} {zs : List Int} (h : Arr K w B zs) (hb : Below w.heap.size w w') : Arr K w' B zs := by
  obtain ⟨t, h⟩ := h
  exact ⟨t, by rw [hb.block B (Array.getElem?_eq_some_iff.1 h).1]; exact h⟩
theorem Arr.lt {K : IntKind} {w : World} {B : Nat} {zs : List Int} (h : Arr K w B zs) : B < w.heap.size := by
  obtain ⟨t, h⟩ := h
  exact (Array.getElem?_eq_some_iff.1 h).1
theorem Arr.cell {K : IntKind} {w : World} {B : Nat} {zs : List Int} (h : Arr K w B zs) {k : Nat} (hk : k < zs.length) : w.cell? ⟨B, k, none⟩ = some (.int K (at0 zs k)) := h.row.cell hk
theorem Arr.free {K : IntKind} {w : World} {B : Nat} {zs : List Int} (h : Arr K w B zs) {k : Nat} (hk : k < zs.length) : w.frozen? ⟨B, k, none⟩ = false := h.row.free hk
theorem Arr.set {K : IntKind} {w : World} {B : Nat} {zs : List Int} (h : Arr K w B zs) (k : Nat) (x : Int) : Arr K (w.setCell ⟨B, k, none⟩ (.int K x)) B (zs.set k x) := by
  obtain ⟨t, h⟩ := h
  refine ⟨t, ?_⟩
  simp [World.setCell, Array.getElem?_modify, h, List.map_set]
theorem Arr.setOther {K : IntKind} {w : World} {B : Nat} {zs : List Int} (h : Arr K w B zs) {B' : Nat} (hne : B ≠ B') (k : Nat) (v : Value) : Arr K (w.setCell ⟨B', k, none⟩ v) B zs := by
  obtain ⟨t, h⟩ := h
  exact ⟨t, by rw [heap_setCell_other w ⟨B', k, none⟩ B v hne]; exact h⟩
theorem Arr.rowOther {K : IntKind} {w : World} {B : Nat} {zs : List Int} (h : Arr K w B zs) {B' : Nat} (hne : B ≠ B') (cs : Array Value) : Arr K (w.setRow B' cs) B zs := by
  obtain ⟨t, h⟩ := h
  exact ⟨t, by rw [setRow_other w B' B cs hne]; exact h⟩
theorem Arr.setRow {K : IntKind} {w : World} {B : Nat} {zs : List Int} (h : Arr K w B zs) (ys : List Int) : Arr K (w.setRow B (ys.map (Value.int K)).toArray) B ys := by
  obtain ⟨t, h⟩ := h
  exact ⟨t, setRow_heap w B _ _ t _ h⟩
theorem Arr.drewN {K : IntKind} {w : World} {B : Nat} {zs : List Int} (h : Arr K w B zs) (n : Nat) : Arr K (w.drewN n) B zs := h.below (below_drewN (Below.refl _ _) n)
/-- What a call is that gives this and leaves the memory that was there. -/
abbrev Ret (f : FuncId) (args : Array Value) (v : Value) (W : World) : Prop := Calls Tryd.prog f args W fun e w' => e = .returned v ∧ Below W.heap.size W w'

section
variable {P : Program} {w : World} {ops : Array Oper} {rest : List Oper} {o : Oper} {a : Act} {Q : Exit → Act → World → Prop}

/-- Goes on only where the next operation is of this form. -/
theorem at_n (n : Tmp) {b c d e f} (h : wpList P ops Q (⟨some n, b, c, d, e, f⟩ :: rest) a w) : wpList P ops Q (⟨some n, b, c, d, e, f⟩ :: rest) a w := h
theorem at_op (h : wpList P ops Q (o :: rest) a w) : wpList P ops Q (o :: rest) a w := h
theorem wpList_boxI (hgd : o.guard = none) (t : TypeId) (x : Operand) (ho : o.op = .box t x) (K : IntKind) (zs : List Int) (hx : a.eval x = aggI K zs)
    (h : ∀ w1, Arr K w1 w.heap.size zs → w.heap.size < w1.heap.size → Below w.heap.size w w1 → wpList P ops Q rest (a.put o.dst (.pointer (some ⟨w.heap.size, 0, none⟩))) w1) : wpList P ops Q (o :: rest) a w := by
  refine wpList_plain hgd fun Kq hK => ?_
  unfold Oper.wp execOp
  simp only [ho, hx, aggI, Value.cells, Sem.run_bind, Instr.box, newVar, newRow, run_newObj_alloc, Sem.run_pure, Result.andThen_ok]
  exact hK _ _ (h _ ⟨_, heap_alloc_new w _⟩ (Array.getElem?_eq_some_iff.1 (heap_alloc_new w _)).1 ((Below.refl _ _).alloc (Nat.le_refl _) _))

theorem wpList_allocI (hgd : o.guard = none) (t : TypeId) (ho : o.op = .alloc t) (K : IntKind) (n : Nat) (hz : (P.info? t).bind (·.zero) = some (.agg (Array.replicate n (Value.int K 0))))
    (h : ∀ w1, Arr K w1 w.heap.size (List.replicate n 0) → w.heap.size < w1.heap.size → Below w.heap.size w w1 → wpList P ops Q rest (a.put o.dst (.pointer (some ⟨w.heap.size, 0, none⟩))) w1) : wpList P ops Q (o :: rest) a w := by
  refine wpList_plain hgd fun Kq hK => ?_
  cases hi : P.info? t with
  | none => rw [hi] at hz; cases hz
  | some i =>
    rw [hi] at hz
    have hz' : i.zero = some (.agg (Array.replicate n (Value.int K 0))) := hz
    have hti : (typeInfo t).run P w = .ok i w := by simp [typeInfo, hi]
    unfold Oper.wp execOp
    simp only [ho, Sem.run_bind, Instr.alloc, zeroValue, hti, hz', newVar, newRow, run_newObj_alloc, Sem.run_pure, Result.andThen_ok, Value.cells]
    refine hK _ _ (h _ ⟨t, ?_⟩ (Array.getElem?_eq_some_iff.1 (heap_alloc_new w _)).1 ((Below.refl _ _).alloc (Nat.le_refl _) _))
    rw [heap_alloc_new]
    simp

theorem wpList_loadI (hgd : o.guard = none) (ty : TypeId) (x : Operand) (ho : o.op = .load ty x) (n : Nat) (e : TypeId) (hu : P.underlying ty = some (.array n e)) (hi : (P.info? ty).map (·.size) = some n)
    (B : Nat) (hx : a.eval x = .pointer (some ⟨B, 0, none⟩)) (K : IntKind) (zs : List Int) (hz : Arr K w B zs) (hn : zs.length = n)
    (h : wpList P ops Q rest (a.put o.dst (aggI K zs)) w) : wpList P ops Q (o :: rest) a w := by
  obtain ⟨t, hz⟩ := hz
  exact wpList_load_row hgd ty x ho B hx t _ _ _ hz hu rfl (by rw [hi]; simp [hn]) h

theorem wpList_storeI (hgd : o.guard = none) (ty : TypeId) (x y : Operand) (ho : o.op = .store ty x y) (n : Nat) (hi : (P.info? ty).map (·.size) = some n)
    (B : Nat) (hx : a.eval x = .pointer (some ⟨B, 0, none⟩)) (K : IntKind) (zs ys : List Int) (hy : a.eval y = aggI K ys) (hz : Arr K w B zs) (hn : zs.length = n) (hm : ys.length = n)
    (h : Arr K (w.setRow B (ys.map (Value.int K)).toArray) B ys → wpList P ops Q rest (a.put o.dst undef) (w.setRow B (ys.map (Value.int K)).toArray)) : wpList P ops Q (o :: rest) a w := by
  have h' := h (hz.setRow ys)
  obtain ⟨t, hz⟩ := hz
  refine wpList_store_row hgd ty x y ho B _ hx hy t _ hz (by rw [hi]; simp [hm]) (by simp [hn, hm]) ?_ h'
  simp [Value.oneCell']

theorem run_indexI (ty : TypeId) (n : Nat) (e : TypeId) (hu : P.underlying ty = some (.array n e)) (d : TypeDesc) (he : P.underlying e = some d) (hd : (match d with | .struct _ | .array _ _ => true | _ => false) = false)
    (hi : (P.info? e).map (·.size) = some 1) (K : IntKind) (zs : List Int) (hn : zs.length = n) (i : Int) (h0 : 0 ≤ i) (h1 : i < n) :
    (Instr.index ty (aggI K zs) (.int .i64 i)).run P w = .ok (.int K (at0 zs i.toNat)) w := by
  cases hq : P.info? e with
  | none => rw [hq] at hi; cases hi
  | some q =>
    have hs : q.size = 1 := by simpa [hq] using hi
    have hlt : i.toNat < zs.length := by omega
    have hagg : (isAgg e).run P w = .ok false w := by
      unfold isAgg
      rw [Sem.run_bind, run_underlying he w]
      cases d <;> simp_all
    simp [Instr.index, aggI, asIntOf, Sem.run_bind, run_underlying hu w, h0, h1, sizeOf, typeInfo, hq, hs, part, hagg, hlt, at0]

theorem results_cellI {fn : Func} {p : Tmp} {ty : TypeId} (h : fn.results = #[.cell p ty]) (tmps : Array Value) (n : Nat) (e : TypeId) (hu : P.underlying ty = some (.array n e)) (hi : (P.info? ty).map (·.size) = some n)
    (B : Nat) (hp : tmps.getD p undef = .pointer (some ⟨B, 0, none⟩)) (K : IntKind) (zs : List Int) (hz : Arr K w B zs) (hn : zs.length = n) : (results fn tmps).run P w = .ok (aggI K zs) w := by
  obtain ⟨t, hz⟩ := hz
  exact results_cell_row h tmps w B t _ _ _ hp hz hu rfl (by rw [hi]; simp [hn])
theorem results_cell_tmpI {fn : Func} {p t1 : Tmp} {ty : TypeId} (h : fn.results = #[.cell p ty, .tmp t1]) (tmps : Array Value) (n : Nat) (e : TypeId) (hu : P.underlying ty = some (.array n e)) (hi : (P.info? ty).map (·.size) = some n)
    (B : Nat) (hp : tmps.getD p undef = .pointer (some ⟨B, 0, none⟩)) (K : IntKind) (zs : List Int) (hz : Arr K w B zs) (hn : zs.length = n) : (results fn tmps).run P w = .ok (.tuple #[aggI K zs, tmps.getD t1 undef]) w := by
  obtain ⟨t, hz⟩ := hz
  have hp' : tmps[p]?.getD undef = .pointer (some ⟨B, 0, none⟩) := by simpa using hp
  have hl := run_loadVar_row (P := P) w B t ty _ _ _ hz hu rfl (by rw [hi]; simp [hn])
  simp [results, h, hp', asAddr, hl, aggI]
end
end Go.Proofs.YtohnicmacmkapaaDoor
namespace Go.Proofs.YtohnicmacmkapaaDoor
open Go.RowKit
set_option linter.unusedVariables false

theorem nat_or_add (x y n : Nat) (hx : x % 2 ^ n = 0) (hy : y < 2 ^ n) : x ||| y = x + y := by
  have hx' : x = (x / 2 ^ n) <<< n := by
    rw [Nat.shiftLeft_eq]
    have := Nat.div_add_mod x (2 ^ n)
    rw [hx, Nat.add_zero, Nat.mul_comm] at this
    exact this.symm
  rw [hx', ← Nat.shiftLeft_add_eq_or_of_lt hy]
theorem u64_or_add (x y : Int) (n : Nat) (hx0 : 0 ≤ x) (hx1 : x < 18446744073709551616) (hx : x % 2 ^ n = 0) (hy0 : 0 ≤ y) (hy1 : y < 2 ^ n) (hy2 : y < 18446744073709551616) : bits .or .u64 x y = x + y := by
  obtain ⟨a, rfl⟩ := Int.eq_ofNat_of_zero_le hx0
  obtain ⟨b, rfl⟩ := Int.eq_ofNat_of_zero_le hy0
  rw [u64_or_nat a b (by omega) (by omega), nat_or_add a b n (by exact_mod_cast hx) (by exact_mod_cast hy1)]
  rfl
theorem u64_and_mask (x : Int) (n m : Nat) (hm : m = 2 ^ n - 1) (hn : m < 18446744073709551616) (hx0 : 0 ≤ x) (hx1 : x < 18446744073709551616) : bits .and .u64 x (m : Int) = x % 2 ^ n := by
  obtain ⟨a, rfl⟩ := Int.eq_ofNat_of_zero_le hx0
  rw [u64_and_nat a m (by omega) hn, hm, Nat.and_two_pow_sub_one_eq_mod]
  clear hx0 hx1 hn hm
  rw [Int.natCast_emod, Int.natCast_pow]
  rfl
theorem wrap_u64_eq (x : Int) : IntKind.u64.wrap x = x % 18446744073709551616 := IntKind.wrap_u64 x
end Go.Proofs.YtohnicmacmkapaaDoor
namespace Go.Proofs.YtohnicmacmkapaaDoor
open Go.RowKit
set_option linter.unusedVariables false
set_option maxRecDepth 8000

def rot64 (x s : Int) : Int := bits BinOp.or .u64 (x * 2 ^ s.toNat % 18446744073709551616) (x / 2 ^ (64 - s).toNat)
def In64 (x : Int) : Prop := 0 ≤ x ∧ x < 18446744073709551616
theorem bits_in64 (op : BinOp) (a b : Int) : In64 (bits op .u64 a b) := by
  have h := bits_within op .u64 a b
  have h1 : IntKind.min .u64 = 0 := by decide
  have h2 : IntKind.max .u64 = 18446744073709551616 - 1 := by decide
  rw [h1, h2] at h
  unfold In64
  omega
theorem rotl64_v (x k : Int) (w : World) (hx : In64 x) (s : Int) (hs : bits BinOp.and .u64 (IntKind.u64.wrap k) 63 = s) (h0 : 0 ≤ s) (h1 : s < 64) :
    Calls Tryd.prog 28 #[.int .u64 x, .int .i64 k] w fun e w' => e = .returned (.int .u64 (rot64 x s)) ∧ w' = w := by
  obtain ⟨hx0, hx1⟩ := hx
  go_enter Tryd.func28, Tryd.ntmps28
  go_wp2
  go_ret
  exact ⟨rfl, rfl⟩
def bigA64 (x : Int) : Int := bits BinOp.xor .u64 (bits BinOp.xor .u64 (rot64 x 36) (rot64 x 30)) (rot64 x 25)
theorem bigA64_in (x : Int) : In64 (bigA64 x) := bits_in64 _ _ _
theorem bigA64_v (x : Int) (w : World) (hx : In64 x) : Calls Tryd.prog 27 #[.int .u64 x] w fun e w' => e = .returned (.int .u64 (bigA64 x)) ∧ w' = w := by
  have hx' := hx
  obtain ⟨hx0, hx1⟩ := hx'
  go_enter Tryd.func27, Tryd.ntmps27
  go_wp2_with (first
    | (go_at_call 28; first | (with_reducible refine (rotl64_v x (-28) _ hx 36 (by decide) (by decide) (by decide)).mono ?_; rintro e w1 ⟨rfl, rfl⟩) | (with_reducible refine (rotl64_v x (-34) _ hx 30 (by decide) (by decide) (by decide)).mono ?_; rintro e w2 ⟨rfl, rfl⟩) | (with_reducible refine (rotl64_v x (-39) _ hx 25 (by decide) (by decide) (by decide)).mono ?_; rintro e w3 ⟨rfl, rfl⟩)))
  go_ret
  exact ⟨rfl, rfl⟩
def bigB64 (x : Int) : Int := bits BinOp.xor .u64 (bits BinOp.xor .u64 (rot64 x 50) (rot64 x 46)) (rot64 x 23)
theorem bigB64_in (x : Int) : In64 (bigB64 x) := bits_in64 _ _ _
theorem bigB64_v (x : Int) (w : World) (hx : In64 x) : Calls Tryd.prog 29 #[.int .u64 x] w fun e w' => e = .returned (.int .u64 (bigB64 x)) ∧ w' = w := by
  have hx' := hx
  obtain ⟨hx0, hx1⟩ := hx'
  go_enter Tryd.func29, Tryd.ntmps29
  go_wp2_with (first
    | (go_at_call 28; first | (with_reducible refine (rotl64_v x (-14) _ hx 50 (by decide) (by decide) (by decide)).mono ?_; rintro e w1 ⟨rfl, rfl⟩) | (with_reducible refine (rotl64_v x (-18) _ hx 46 (by decide) (by decide) (by decide)).mono ?_; rintro e w2 ⟨rfl, rfl⟩) | (with_reducible refine (rotl64_v x (-41) _ hx 23 (by decide) (by decide) (by decide)).mono ?_; rintro e w3 ⟨rfl, rfl⟩)))
  go_ret
  exact ⟨rfl, rfl⟩
def lowA64 (x : Int) : Int := bits BinOp.xor .u64 (bits BinOp.xor .u64 (rot64 x 63) (rot64 x 56)) (x / 128)
theorem lowA64_in (x : Int) : In64 (lowA64 x) := bits_in64 _ _ _
theorem lowA64_v (x : Int) (w : World) (hx : In64 x) : Calls Tryd.prog 30 #[.int .u64 x] w fun e w' => e = .returned (.int .u64 (lowA64 x)) ∧ w' = w := by
  have hx' := hx
  obtain ⟨hx0, hx1⟩ := hx'
  go_enter Tryd.func30, Tryd.ntmps30
  go_wp2_with (first
    | (go_at_call 28; first | (with_reducible refine (rotl64_v x (-1) _ hx 63 (by decide) (by decide) (by decide)).mono ?_; rintro e w1 ⟨rfl, rfl⟩) | (with_reducible refine (rotl64_v x (-8) _ hx 56 (by decide) (by decide) (by decide)).mono ?_; rintro e w2 ⟨rfl, rfl⟩)))
  go_ret
  exact ⟨rfl, rfl⟩
def lowB64 (x : Int) : Int := bits BinOp.xor .u64 (bits BinOp.xor .u64 (rot64 x 45) (rot64 x 3)) (x / 64)
theorem lowB64_in (x : Int) : In64 (lowB64 x) := bits_in64 _ _ _
theorem lowB64_v (x : Int) (w : World) (hx : In64 x) : Calls Tryd.prog 31 #[.int .u64 x] w fun e w' => e = .returned (.int .u64 (lowB64 x)) ∧ w' = w := by
  have hx' := hx
  obtain ⟨hx0, hx1⟩ := hx'
  go_enter Tryd.func31, Tryd.ntmps31
  go_wp2_with (first
    | (go_at_call 28; first | (with_reducible refine (rotl64_v x (-19) _ hx 45 (by decide) (by decide) (by decide)).mono ?_; rintro e w1 ⟨rfl, rfl⟩) | (with_reducible refine (rotl64_v x (-61) _ hx 3 (by decide) (by decide) (by decide)).mono ?_; rintro e w2 ⟨rfl, rfl⟩)))
  go_ret
  exact ⟨rfl, rfl⟩
/-- The block of the rounds' variable: width, count, state, four functions. -/
def RS64 (w : World) (B : Nat) (st : List Int) : Prop := st.length = 8 ∧ (∀ x ∈ st, In64 x) ∧ ∃ t, w.heap[B]? = some (.cells ([Value.int .i64 64, Value.int .i64 80] ++ st.map (Value.int .u64) ++ [Value.func (.func 27) #[] #[], Value.func (.func 29) #[] #[], Value.func (.func 30) #[] #[], Value.func (.func 31) #[] #[]]).toArray t (0, 0))
theorem RS64.lt {w : World} {B : Nat} {st : List Int} (h : RS64 w B st) : B < w.heap.size := by
  obtain ⟨_, _, t, h⟩ := h
  exact (Array.getElem?_eq_some_iff.1 h).1
theorem RS64.but {w w' : World} {B : Nat} {st : List Int} (h : RS64 w B st) {row : Option Nat} (hb : w.grownBy w' row) (hr : some B ≠ row) : RS64 w' B st := by
  have hl := h.lt
  obtain ⟨h1, h2, t, h⟩ := h
  exact ⟨h1, h2, t, by obtain ⟨_, _, _, _, hb5⟩ := hb; rw [hb5 B hl hr]; exact h⟩
theorem RS64.below {w w' : World} {B : Nat} {st : List Int} (h : RS64 w B st) (hb : Below w.heap.size w w') : RS64 w' B st := by
  have hl := h.lt
  obtain ⟨h1, h2, t, h⟩ := h
  exact ⟨h1, h2, t, by rw [hb.block B hl]; exact h⟩
theorem RS64.cell {w : World} {B : Nat} {st : List Int} (h : RS64 w B st) (k : Nat) (v : Value) (hv : ([Value.int .i64 64, Value.int .i64 80] ++ st.map (Value.int .u64) ++ [Value.func (.func 27) #[] #[], Value.func (.func 29) #[] #[], Value.func (.func 30) #[] #[], Value.func (.func 31) #[] #[]])[k]? = some v) : w.cell? ⟨B, k, none⟩ = some v ∧ w.frozen? ⟨B, k, none⟩ = false := by
  obtain ⟨h1, h2, t, h⟩ := h
  have hk := (List.getElem?_eq_some_iff.1 hv).1
  constructor
  · simp [World.cell?, h] at hv ⊢
    exact hv
  · simp [World.frozen?, h]
theorem RS64.width {w : World} {B : Nat} {st : List Int} (h : RS64 w B st) : w.cell? ⟨B, 0, none⟩ = some (.int .i64 64) := (h.cell 0 _ rfl).1
theorem RS64.count {w : World} {B : Nat} {st : List Int} (h : RS64 w B st) : w.cell? ⟨B, 1, none⟩ = some (.int .i64 80) := (h.cell 1 _ rfl).1
theorem RS64.stAt {w : World} {B : Nat} {st : List Int} (h : RS64 w B st) {j : Nat} (hj : j < 8) : w.cell? ⟨B, 2 + j, none⟩ = some (.int .u64 (at0 st j)) ∧ w.frozen? ⟨B, 2 + j, none⟩ = false := by
  refine h.cell (2 + j) _ ?_
  have hl := h.1
  rw [List.getElem?_append_left (by simp; omega), List.getElem?_append_right (by simp)]
  simp [at0, show j < st.length by omega]
theorem RS64.fn {w : World} {B : Nat} {st : List Int} (h : RS64 w B st) : w.cell? ⟨B, 10, none⟩ = some (.func (.func 27) #[] #[]) ∧ w.cell? ⟨B, 11, none⟩ = some (.func (.func 29) #[] #[]) ∧ w.cell? ⟨B, 12, none⟩ = some (.func (.func 30) #[] #[]) ∧ w.cell? ⟨B, 13, none⟩ = some (.func (.func 31) #[] #[]) := by
  have hl := h.1
  refine ⟨(h.cell 10 _ ?_).1, (h.cell 11 _ ?_).1, (h.cell 12 _ ?_).1, (h.cell 13 _ ?_).1⟩ <;> simp [hl]
theorem RS64.set {w : World} {B : Nat} {st : List Int} (h : RS64 w B st) {j : Nat} (hj : j < 8) {x : Int} (hx : In64 x) : RS64 (w.setCell ⟨B, 2 + j, none⟩ (.int .u64 x)) B (st.set j x) := by
  obtain ⟨h1, h2, t, h⟩ := h
  refine ⟨by simp [h1], fun y hy => ?_, t, ?_⟩
  · rcases List.mem_or_eq_of_mem_set hy with k | rfl
    · exact h2 y k
    · exact hx
  · simp only [World.setCell, Array.getElem?_modify, h]
    have e : ∀ (a b v : Value) (l r : List Value), j < l.length → ([a, b] ++ l ++ r).set (2 + j) v = [a, b] ++ l.set j v ++ r := by
      intro a b v l r hl
      rw [Nat.add_comm, List.append_assoc, List.append_assoc]
      show a :: b :: (l ++ r).set j v = a :: b :: (l.set j v ++ r)
      rw [List.set_append_left _ _ hl]
    have e2 := e (Value.int .i64 64) (Value.int .i64 80) (Value.int .u64 x) (st.map (Value.int .u64)) [Value.func (.func 27) #[] #[], Value.func (.func 29) #[] #[], Value.func (.func 30) #[] #[], Value.func (.func 31) #[] #[]] (by simp [h1, hj])
    rw [List.map_set, ← e2]
    simp
theorem RS64.stIn {w : World} {B : Nat} {st : List Int} (h : RS64 w B st) (j : Nat) : In64 (at0 st j) := by
  by_cases hj : j < st.length
  · exact h.2.1 _ (at0_mem hj)
  · unfold In64; simp [at0, hj]
theorem cut64_v (x : Int) (w : World) (B : Nat) (st : List Int) (hr : RS64 w B st) (hx : In64 x) : Calls Tryd.prog 42 #[.pointer (some ⟨B, 0, none⟩), .int .u64 x] w fun e w' => e = .returned (.int .u64 x) ∧ w' = w := by
  have h0 := hr.width
  have hl := hr.lt
  obtain ⟨hx0, hx1⟩ := hx
  go_enter Tryd.func42, Tryd.ntmps42
  go_wp2
  go_ret
  exact ⟨rfl, rfl⟩
def rot32 (x s : Int) : Int := bits BinOp.or .u32 (x * 2 ^ s.toNat % 4294967296) (x / 2 ^ (32 - s).toNat)
def In32 (x : Int) : Prop := 0 ≤ x ∧ x < 4294967296
theorem bits_in32 (op : BinOp) (a b : Int) : In32 (bits op .u32 a b) := by
  have h := bits_within op .u32 a b
  have h1 : IntKind.min .u32 = 0 := by decide
  have h2 : IntKind.max .u32 = 4294967296 - 1 := by decide
  rw [h1, h2] at h
  unfold In32
  omega
theorem rotl32_v (x k : Int) (w : World) (hx : In32 x) (s : Int) (hs : bits BinOp.and .u64 (IntKind.u64.wrap k) 31 = s) (h0 : 0 ≤ s) (h1 : s < 32) :
    Calls Tryd.prog 19 #[.int .u32 x, .int .i64 k] w fun e w' => e = .returned (.int .u32 (rot32 x s)) ∧ w' = w := by
  obtain ⟨hx0, hx1⟩ := hx
  go_enter Tryd.func19, Tryd.ntmps19
  go_wp2
  go_ret
  exact ⟨rfl, rfl⟩
def bigA32 (x : Int) : Int := bits BinOp.xor .u32 (bits BinOp.xor .u32 (rot32 x 30) (rot32 x 19)) (rot32 x 10)
theorem bigA32_in (x : Int) : In32 (bigA32 x) := bits_in32 _ _ _
theorem bigA32_v (x : Int) (w : World) (hx : In32 x) : Calls Tryd.prog 18 #[.int .u32 x] w fun e w' => e = .returned (.int .u32 (bigA32 x)) ∧ w' = w := by
  have hx' := hx
  obtain ⟨hx0, hx1⟩ := hx'
  go_enter Tryd.func18, Tryd.ntmps18
  go_wp2_with (first
    | (go_at_call 19; first | (with_reducible refine (rotl32_v x (-2) _ hx 30 (by decide) (by decide) (by decide)).mono ?_; rintro e w1 ⟨rfl, rfl⟩) | (with_reducible refine (rotl32_v x (-13) _ hx 19 (by decide) (by decide) (by decide)).mono ?_; rintro e w2 ⟨rfl, rfl⟩) | (with_reducible refine (rotl32_v x (-22) _ hx 10 (by decide) (by decide) (by decide)).mono ?_; rintro e w3 ⟨rfl, rfl⟩)))
  go_ret
  exact ⟨rfl, rfl⟩
def bigB32 (x : Int) : Int := bits BinOp.xor .u32 (bits BinOp.xor .u32 (rot32 x 26) (rot32 x 21)) (rot32 x 7)
theorem bigB32_in (x : Int) : In32 (bigB32 x) := bits_in32 _ _ _
theorem bigB32_v (x : Int) (w : World) (hx : In32 x) : Calls Tryd.prog 20 #[.int .u32 x] w fun e w' => e = .returned (.int .u32 (bigB32 x)) ∧ w' = w := by
  have hx' := hx
  obtain ⟨hx0, hx1⟩ := hx'
  go_enter Tryd.func20, Tryd.ntmps20
  go_wp2_with (first
    | (go_at_call 19; first | (with_reducible refine (rotl32_v x (-6) _ hx 26 (by decide) (by decide) (by decide)).mono ?_; rintro e w1 ⟨rfl, rfl⟩) | (with_reducible refine (rotl32_v x (-11) _ hx 21 (by decide) (by decide) (by decide)).mono ?_; rintro e w2 ⟨rfl, rfl⟩) | (with_reducible refine (rotl32_v x (-25) _ hx 7 (by decide) (by decide) (by decide)).mono ?_; rintro e w3 ⟨rfl, rfl⟩)))
  go_ret
  exact ⟨rfl, rfl⟩
def lowA32 (x : Int) : Int := bits BinOp.xor .u32 (bits BinOp.xor .u32 (rot32 x 25) (rot32 x 14)) (x / 8)
theorem lowA32_in (x : Int) : In32 (lowA32 x) := bits_in32 _ _ _
theorem lowA32_v (x : Int) (w : World) (hx : In32 x) : Calls Tryd.prog 21 #[.int .u32 x] w fun e w' => e = .returned (.int .u32 (lowA32 x)) ∧ w' = w := by
  have hx' := hx
  obtain ⟨hx0, hx1⟩ := hx'
  go_enter Tryd.func21, Tryd.ntmps21
  go_wp2_with (first
    | (go_at_call 19; first | (with_reducible refine (rotl32_v x (-7) _ hx 25 (by decide) (by decide) (by decide)).mono ?_; rintro e w1 ⟨rfl, rfl⟩) | (with_reducible refine (rotl32_v x (-18) _ hx 14 (by decide) (by decide) (by decide)).mono ?_; rintro e w2 ⟨rfl, rfl⟩)))
  go_ret
  exact ⟨rfl, rfl⟩
def lowB32 (x : Int) : Int := bits BinOp.xor .u32 (bits BinOp.xor .u32 (rot32 x 15) (rot32 x 13)) (x / 1024)
theorem lowB32_in (x : Int) : In32 (lowB32 x) := bits_in32 _ _ _
theorem lowB32_v (x : Int) (w : World) (hx : In32 x) : Calls Tryd.prog 22 #[.int .u32 x] w fun e w' => e = .returned (.int .u32 (lowB32 x)) ∧ w' = w := by
  have hx' := hx
  obtain ⟨hx0, hx1⟩ := hx'
  go_enter Tryd.func22, Tryd.ntmps22
  go_wp2_with (first
    | (go_at_call 19; first | (with_reducible refine (rotl32_v x (-17) _ hx 15 (by decide) (by decide) (by decide)).mono ?_; rintro e w1 ⟨rfl, rfl⟩) | (with_reducible refine (rotl32_v x (-19) _ hx 13 (by decide) (by decide) (by decide)).mono ?_; rintro e w2 ⟨rfl, rfl⟩)))
  go_ret
  exact ⟨rfl, rfl⟩
/-- The block of the rounds' variable: width, count, state, four functions. -/
def RS32 (w : World) (B : Nat) (st : List Int) : Prop := st.length = 8 ∧ (∀ x ∈ st, In32 x) ∧ ∃ t, w.heap[B]? = some (.cells ([Value.int .i64 32, Value.int .i64 64] ++ st.map (Value.int .u32) ++ [Value.func (.func 18) #[] #[], Value.func (.func 20) #[] #[], Value.func (.func 21) #[] #[], Value.func (.func 22) #[] #[]]).toArray t (0, 0))
theorem RS32.lt {w : World} {B : Nat} {st : List Int} (h : RS32 w B st) : B < w.heap.size := by
  obtain ⟨_, _, t, h⟩ := h
  exact (Array.getElem?_eq_some_iff.1 h).1
theorem RS32.but {w w' : World} {B : Nat} {st : List Int} (h : RS32 w B st) {row : Option Nat} (hb : w.grownBy w' row) (hr : some B ≠ row) : RS32 w' B st := by
  have hl := h.lt
  obtain ⟨h1, h2, t, h⟩ := h
  exact ⟨h1, h2, t, by obtain ⟨_, _, _, _, hb5⟩ := hb; rw [hb5 B hl hr]; exact h⟩
theorem RS32.below {w w' : World} {B : Nat} {st : List Int} (h : RS32 w B st) (hb : Below w.heap.size w w') : RS32 w' B st := by
  have hl := h.lt
  obtain ⟨h1, h2, t, h⟩ := h
  exact ⟨h1, h2, t, by rw [hb.block B hl]; exact h⟩
theorem RS32.cell {w : World} {B : Nat} {st : List Int} (h : RS32 w B st) (k : Nat) (v : Value) (hv : ([Value.int .i64 32, Value.int .i64 64] ++ st.map (Value.int .u32) ++ [Value.func (.func 18) #[] #[], Value.func (.func 20) #[] #[], Value.func (.func 21) #[] #[], Value.func (.func 22) #[] #[]])[k]? = some v) : w.cell? ⟨B, k, none⟩ = some v ∧ w.frozen? ⟨B, k, none⟩ = false := by
  obtain ⟨h1, h2, t, h⟩ := h
  have hk := (List.getElem?_eq_some_iff.1 hv).1
  constructor
  · simp [World.cell?, h] at hv ⊢
    exact hv
  · simp [World.frozen?, h]
theorem RS32.width {w : World} {B : Nat} {st : List Int} (h : RS32 w B st) : w.cell? ⟨B, 0, none⟩ = some (.int .i64 32) := (h.cell 0 _ rfl).1
theorem RS32.count {w : World} {B : Nat} {st : List Int} (h : RS32 w B st) : w.cell? ⟨B, 1, none⟩ = some (.int .i64 64) := (h.cell 1 _ rfl).1
theorem RS32.stAt {w : World} {B : Nat} {st : List Int} (h : RS32 w B st) {j : Nat} (hj : j < 8) : w.cell? ⟨B, 2 + j, none⟩ = some (.int .u32 (at0 st j)) ∧ w.frozen? ⟨B, 2 + j, none⟩ = false := by
  refine h.cell (2 + j) _ ?_
  have hl := h.1
  rw [List.getElem?_append_left (by simp; omega), List.getElem?_append_right (by simp)]
  simp [at0, show j < st.length by omega]
theorem RS32.fn {w : World} {B : Nat} {st : List Int} (h : RS32 w B st) : w.cell? ⟨B, 10, none⟩ = some (.func (.func 18) #[] #[]) ∧ w.cell? ⟨B, 11, none⟩ = some (.func (.func 20) #[] #[]) ∧ w.cell? ⟨B, 12, none⟩ = some (.func (.func 21) #[] #[]) ∧ w.cell? ⟨B, 13, none⟩ = some (.func (.func 22) #[] #[]) := by
  have hl := h.1
  refine ⟨(h.cell 10 _ ?_).1, (h.cell 11 _ ?_).1, (h.cell 12 _ ?_).1, (h.cell 13 _ ?_).1⟩ <;> simp [hl]
theorem RS32.set {w : World} {B : Nat} {st : List Int} (h : RS32 w B st) {j : Nat} (hj : j < 8) {x : Int} (hx : In32 x) : RS32 (w.setCell ⟨B, 2 + j, none⟩ (.int .u32 x)) B (st.set j x) := by
  obtain ⟨h1, h2, t, h⟩ := h
  refine ⟨by simp [h1], fun y hy => ?_, t, ?_⟩
  · rcases List.mem_or_eq_of_mem_set hy with k | rfl
    · exact h2 y k
    · exact hx
  · simp only [World.setCell, Array.getElem?_modify, h]
    have e : ∀ (a b v : Value) (l r : List Value), j < l.length → ([a, b] ++ l ++ r).set (2 + j) v = [a, b] ++ l.set j v ++ r := by
      intro a b v l r hl
      rw [Nat.add_comm, List.append_assoc, List.append_assoc]
      show a :: b :: (l ++ r).set j v = a :: b :: (l.set j v ++ r)
      rw [List.set_append_left _ _ hl]
    have e2 := e (Value.int .i64 32) (Value.int .i64 64) (Value.int .u32 x) (st.map (Value.int .u32)) [Value.func (.func 18) #[] #[], Value.func (.func 20) #[] #[], Value.func (.func 21) #[] #[], Value.func (.func 22) #[] #[]] (by simp [h1, hj])
    rw [List.map_set, ← e2]
    simp
theorem RS32.stIn {w : World} {B : Nat} {st : List Int} (h : RS32 w B st) (j : Nat) : In32 (at0 st j) := by
  by_cases hj : j < st.length
  · exact h.2.1 _ (at0_mem hj)
  · unfold In32; simp [at0, hj]
theorem cut32_v (x : Int) (w : World) (B : Nat) (st : List Int) (hr : RS32 w B st) (hx : In64 x) : Calls Tryd.prog 37 #[.pointer (some ⟨B, 0, none⟩), .int .u64 x] w fun e w' => e = .returned (.int .u32 (x / 4294967296)) ∧ w' = w := by
  have h0 := hr.width
  have hl := hr.lt
  obtain ⟨hx0, hx1⟩ := hx
  go_enter Tryd.func37, Tryd.ntmps37
  go_wp2
  go_ret
  exact ⟨rfl, rfl⟩
end Go.Proofs.YtohnicmacmkapaaDoor
namespace Go.Proofs.YtohnicmacmkapaaDoor
open Go.RowKit
set_option linter.unusedVariables false
set_option maxRecDepth 8000

def squaresL : List Int := [7640891576956012808, 13503953896175478587, 4354685564936845355, 11912009170470909681, 5840696475078001361, 11170449401992604703, 2270897969802886507, 6620516959819538809]
def cubesL : List Int := [4794697086780616226, 8158064640168781261, 13096744586834688815, 16840607885511220156, 4131703408338449720, 6480981068601479193, 10538285296894168987, 12329834152419229976, 15566598209576043074, 1334009975649890238, 2608012711638119052, 6128411473006802146, 8268148722764581231, 9286055187155687089, 11230858885718282805, 13951009754708518548, 16472876342353939154, 17275323862435702243, 1135362057144423861, 2597628984639134821, 3308224258029322869, 5365058923640841347, 6679025012923562964, 8573033837759648693, 10970295158949994411, 12119686244451234320, 12683024718118986047, 13788192230050041572, 14330467153632333762, 15395433587784984357, 489312712824947311, 1452737877330783856, 2861767655752347644, 3322285676063803686, 5560940570517711597, 5996557281743188959, 7280758554555802590, 8532644243296465576, 9350256976987008742, 10552545826968843579, 11727347734174303076, 12113106623233404929, 14000437183269869457, 14369950271660146224, 15101387698204529176, 15463397548674623760, 17586052441742319658, 1182934255886127544, 1847814050463011016, 2177327727835720531, 2830643537854262169, 3796741975233480872, 4115178125766777443, 5681478168544905931, 6601373596472566643, 7507060721942968483, 8399075790359081724, 8693463985226723168, 9568029438360202098, 10144078919501101548, 10430055236837252648, 11840083180663258601, 13761210420658862357, 14299343276471374635, 14566680578165727644, 15097957966210449927, 16922976911328602910, 17689382322260857208, 500013540394364858, 748580250866718886, 1242879168328830382, 1977374033974150939, 2944078676154940804, 3659926193048069267, 4368137639120453308, 4836135668995329356, 5532061633213252278, 6448918945643986474, 6902733635092675308, 7801388544844847127]
/-- What the tables of sha hold. -/
structure TabS (w : World) : Prop where
  sq : ∀ k, k < 8 → w.cell? ⟨0, k, none⟩ = some (.int .u64 (at0 squaresL k))
  cu : ∀ k, k < 80 → w.cell? ⟨3, k, none⟩ = some (.int .u64 (at0 cubesL k))
theorem TabS.lt {w : World} (h : TabS w) : 0 < w.heap.size ∧ 3 < w.heap.size := ⟨World.block_lt_of_cell? w _ (h.sq 0 (by decide)), World.block_lt_of_cell? w _ (h.cu 0 (by decide))⟩
theorem TabS.but {w w' : World} (h : TabS w) {B : Nat} (hb : w.grownBy w' (some B)) (hs : 0 ≠ B) (hc : 3 ≠ B) : TabS w' :=
  ⟨fun k hk => hb.cell (h.sq k hk) (by simpa using hs), fun k hk => hb.cell (h.cu k hk) (by simpa using hc)⟩
theorem TabS.below {w w' : World} (h : TabS w) (hb : Below w.heap.size w w') : TabS w' :=
  ⟨fun k hk => by rw [hb.cell h.lt.1]; exact h.sq k hk, fun k hk => by rw [hb.cell h.lt.2]; exact h.cu k hk⟩
theorem squares_in : ∀ k, k < 8 → In64 (at0 squaresL k) := by unfold In64; decide
theorem cubes_in : ∀ k, k < 80 → In64 (at0 cubesL k) := by unfold In64; decide
theorem grown_set {w w' : World} {B : Nat} (h : w.grownBy w' (some B)) (o : Nat) (v : Value) : w.grownBy (w'.setCell ⟨B, o, none⟩ v) (some B) := by
  refine ⟨h.os, h.tape, h.output, ?_, fun k hk hne => ?_⟩
  · have := h.size
    simpa [World.setCell] using this
  · rw [heap_setCell_other w' ⟨B, o, none⟩ k v (by simpa using hne)]
    exact h.block k hk hne
theorem grown_drew {w w' : World} {row : Option Nat} (h : w.grownBy w' row) : w.grownBy w'.drew row := ⟨h.os, h.tape, h.output, h.size, h.block⟩
def begin64 : List Int := (List.range 8).map fun k => at0 squaresL k
theorem begin64_at (k : Nat) (hk : k < 8) : at0 begin64 k = at0 squaresL k := by simp [begin64, at0, hk]
theorem begin64_v (w : World) (B : Nat) (st : List Int) (hr : RS64 w B st) (hT : TabS w) (hs : 0 ≠ B) (hc : 3 ≠ B) :
    Calls Tryd.prog 32 #[.pointer (some ⟨B, 0, none⟩)] w fun e w' => (∃ v, e = .returned v) ∧ RS64 w' B begin64 ∧ w.grownBy w' (some B) := by
  go_enter Tryd.func32, Tryd.ntmps32
  go_wp2
  go_loopw [3] (fun i wr => ∃ (k : Nat) (st : List Int), k ≤ 8 ∧ i = .int .i64 k ∧ RS64 wr B st ∧ w.grownBy wr (some B) ∧ ∀ k', k' < k → at0 st k' = at0 begin64 k') (fun i _ => 8 - (intOf i).toNat)
  case atStart => exact ⟨0, st, by omega, rfl, hr, World.grownBy.refl _ _, fun k' h => by omega⟩
  case round =>
    obtain ⟨k, st, hk, rfl, hr, hg, hst⟩ := hrel
    have hT' : TabS wr := hT.but hg hs hc
    have hl := hr.lt
    by_cases hlt : k < 8
    · have c0 := hT'.sq k hlt
      obtain ⟨c1, f1⟩ := hr.stAt hlt
      have hin := squares_in k hlt
      have hcut := fun W (h : RS64 W B st) => cut64_v (at0 squaresL k) W B st h hin
      go_wp2
      go_region_with (go_at_call 42; refine (hcut _ (by first | exact hr | exact hr.drew)).mono ?_; rintro e w9 ⟨rfl, rfl⟩)
      go_wp2
      refine ⟨⟨k + 1, st.set k (at0 begin64 k), by omega, by go_num, ?_, ?_, fun k' hk' => ?_⟩, by simp only [intOf]; omega⟩
      · have h := hr.set (j := k) hlt (x := at0 squaresL k) (by unfold In64 at hin; unfold In64; omega)
        rw [begin64_at k hlt]
        exact h
      · exact grown_drew (grown_set hg _ _)
      · rw [at0_set st k k' _ (by rw [hr.1]; exact hlt)]
        by_cases e : k' = k
        · rw [if_pos e, e]
        · rw [if_neg e]; exact hst k' (by omega)
    · obtain rfl : k = 8 := by omega
      have e : st = begin64 := eq_of_all (by rw [hr.1]; rfl) fun j h => hst j (by rw [hr.1] at h; exact h)
      subst e
      go_wp2
      refine bodyPost_end (v := .tuple #[]) (by simp [results, Tryd.results32]) rfl ?_
      exact ⟨⟨_, rfl⟩, hr, hg⟩
def begin32 : List Int := (List.range 8).map fun k => at0 squaresL k / 4294967296
theorem begin32_at (k : Nat) (hk : k < 8) : at0 begin32 k = at0 squaresL k / 4294967296 := by simp [begin32, at0, hk]
theorem begin32_v (w : World) (B : Nat) (st : List Int) (hr : RS32 w B st) (hT : TabS w) (hs : 0 ≠ B) (hc : 3 ≠ B) :
    Calls Tryd.prog 23 #[.pointer (some ⟨B, 0, none⟩)] w fun e w' => (∃ v, e = .returned v) ∧ RS32 w' B begin32 ∧ w.grownBy w' (some B) := by
  go_enter Tryd.func23, Tryd.ntmps23
  go_wp2
  go_loopw [3] (fun i wr => ∃ (k : Nat) (st : List Int), k ≤ 8 ∧ i = .int .i64 k ∧ RS32 wr B st ∧ w.grownBy wr (some B) ∧ ∀ k', k' < k → at0 st k' = at0 begin32 k') (fun i _ => 8 - (intOf i).toNat)
  case atStart => exact ⟨0, st, by omega, rfl, hr, World.grownBy.refl _ _, fun k' h => by omega⟩
  case round =>
    obtain ⟨k, st, hk, rfl, hr, hg, hst⟩ := hrel
    have hT' : TabS wr := hT.but hg hs hc
    have hl := hr.lt
    by_cases hlt : k < 8
    · have c0 := hT'.sq k hlt
      obtain ⟨c1, f1⟩ := hr.stAt hlt
      have hin := squares_in k hlt
      have hcut := fun W (h : RS32 W B st) => cut32_v (at0 squaresL k) W B st h hin
      go_wp2
      go_region_with (go_at_call 37; refine (hcut _ (by first | exact hr | exact hr.drew)).mono ?_; rintro e w9 ⟨rfl, rfl⟩)
      go_wp2
      refine ⟨⟨k + 1, st.set k (at0 begin32 k), by omega, by go_num, ?_, ?_, fun k' hk' => ?_⟩, by simp only [intOf]; omega⟩
      · have h := hr.set (j := k) hlt (x := at0 squaresL k / 4294967296) (by unfold In64 at hin; unfold In32; omega)
        rw [begin32_at k hlt]
        exact h
      · exact grown_drew (grown_set hg _ _)
      · rw [at0_set st k k' _ (by rw [hr.1]; exact hlt)]
        by_cases e : k' = k
        · rw [if_pos e, e]
        · rw [if_neg e]; exact hst k' (by omega)
    · obtain rfl : k = 8 := by omega
      have e : st = begin32 := eq_of_all (by rw [hr.1]; rfl) fun j h => hst j (by rw [hr.1] at h; exact h)
      subst e
      go_wp2
      refine bodyPost_end (v := .tuple #[]) (by simp [results, Tryd.results23]) rfl ?_
      exact ⟨⟨_, rfl⟩, hr, hg⟩
end Go.Proofs.YtohnicmacmkapaaDoor
namespace Go.Proofs.YtohnicmacmkapaaDoor
open Go.RowKit
set_option linter.unusedVariables false
set_option maxRecDepth 8000

theorem arr_drew {K : IntKind} {w : World} {B : Nat} {zs : List Int} (h : Arr K w B zs) : Arr K w.drew B zs := h
theorem below_row {B : Nat} {a w : World} (h : Below B a w) {g : Nat} (hg : B ≤ g) (cs : Array Value) : Below B a (w.setRow g cs) := by
  refine ⟨h.os, h.tape, h.output, ?_, fun k hk => ?_⟩
  · have := h.size
    simpa [World.setRow] using this
  · rw [setRow_other w g k cs (by omega)]
    exact h.block k hk
/-- Bytes as one number, the highest first. -/
def beF : List Int → Int := fun l => l.foldl (fun x c => x * 256 + c) 0
theorem beF_snoc (l : List Int) (c : Int) : beF (l ++ [c]) = beF l * 256 + c := by simp [beF]
theorem beF_lt : ∀ (n : Nat) (l : List Int), l.length = n → Bytes l → 0 ≤ beF l ∧ beF l < 256 ^ n
  | 0, l, h, _ => by
    obtain rfl : l = [] := List.length_eq_zero_iff.1 h
    simp [beF]
  | n + 1, l, h, hb => by
    have hne : l ≠ [] := by rintro rfl; simp at h
    rw [← List.dropLast_concat_getLast hne] at hb ⊢
    have ih := beF_lt n l.dropLast (by simp [h]) (fun x hx => hb x (by simp [hx]))
    have hc := hb (l.getLast hne) (by simp)
    rw [beF_snoc, Int.pow_succ]
    omega
theorem wrap_id64 {x : Int} (h0 : 0 ≤ x) (h1 : x < 4611686018427387904) : IntKind.i64.wrap x = x := by
  simp [IntKind.wrap, IntKind.bits, IntKind.signed]
  omega
theorem at0_rep (n j : Nat) : at0 (List.replicate n 0) j = 0 := by
  unfold at0
  rw [List.getElem?_replicate]
  split <;> rfl
theorem take_snoc (l : List Int) (t : Nat) (h : t < l.length) : l.take (t + 1) = l.take t ++ [at0 l t] := by
  rw [List.take_add_one, at0_lt h]; simp [h]
theorem zero_t64 : (Tryd.prog.info? 61).bind (·.zero) = some (.agg (Array.replicate 80 (Value.int .u64 0))) := by kernel_rfl
theorem info_t64 : (Tryd.prog.info? 61).map (·.size) = some 80 := by kernel_rfl
theorem und_t64 : Tryd.prog.underlying 61 = some (.array 80 49) := by kernel_rfl
theorem or_be64 (x c : Int) (hx : 0 ≤ x ∧ x < 72057594037927936) (hc : 0 ≤ c ∧ c ≤ 255) : bits BinOp.or .u64 (x * 256) c = x * 256 + c := by
  obtain ⟨a, rfl⟩ := Int.eq_ofNat_of_zero_le hx.1
  obtain ⟨b, rfl⟩ := Int.eq_ofNat_of_zero_le hc.1
  have h := u64_or_nat (a * 256) b (by omega) (by omega)
  rw [show (((a * 256 : Nat) : Int)) = (a : Int) * 256 by simp] at h
  rw [h, nat_or_add (a * 256) b 8 (by omega) (by omega)]
  simp
/-- The words of a block. -/
def word64 (zs : List Int) (i : Nat) : Int := beF ((zs.drop (i * 8)).take 8)
theorem word64_in {zs : List Int} (hb : Bytes zs) {i : Nat} (h : (i + 1) * 8 ≤ zs.length) : In64 (word64 zs i) := by
  have := beF_lt 8 ((zs.drop (i * 8)).take 8) (by simp; omega) (fun x hx => hb x (List.mem_of_mem_drop (List.mem_of_mem_take hx)))
  unfold In64 word64
  omega
def next64 (m : List Int) (i : Nat) : Int := (at0 m (i - 16) + lowA64 (at0 m (i - 15)) + at0 m (i - 7) + lowB64 (at0 m (i - 2))) % 18446744073709551616
def sched64 (zs : List Int) : Nat → List Int
  | 0 => (List.range 16).map (word64 zs) ++ List.replicate 64 0
  | k + 1 => (sched64 zs k).set (16 + k) (next64 (sched64 zs k) (16 + k))
theorem sched64_len (zs : List Int) : ∀ k, (sched64 zs k).length = 80
  | 0 => by simp [sched64]
  | k + 1 => by simp [sched64, sched64_len zs k]
theorem sched64_in {zs : List Int} (hb : Bytes zs) (hl : zs.length = 128) : ∀ k x, x ∈ sched64 zs k → In64 x
  | 0, x, hx => by
    rcases List.mem_append.1 hx with h | h
    · obtain ⟨i, hi, rfl⟩ := List.mem_map.1 h
      exact word64_in hb (by have := List.mem_range.1 hi; omega)
    · obtain ⟨-, rfl⟩ := List.mem_replicate.1 h
      unfold In64; omega
  | k + 1, x, hx => by
    rcases List.mem_or_eq_of_mem_set hx with h | rfl
    · exact sched64_in hb hl k x h
    · unfold In64 next64; omega
set_option maxHeartbeats 1000000 in
theorem schedule64_v (w : World) (B : Nat) (st : List Int) (hr : RS64 w B st) (v : Value) (zs : List Int) (hv : RdI .u8 w v zs) (hb : Bytes zs) (hl : zs.length = 128) :
    Calls Tryd.prog 47 #[.pointer (some ⟨B, 0, none⟩), v] w fun e w' => e = .returned (aggI .u64 (sched64 zs 64)) ∧ Below w.heap.size w w' := by
  obtain ⟨a, cap, rfl, hcap, hmax, hcell, -⟩ := hv
  obtain ⟨x, o, rfl, -⟩ := hcell 0 (by omega)
  replace hcell : ∀ k, k < 128 → w.cell? ⟨x, o + k, none⟩ = some (.int .u8 (at0 zs k)) := fun k hk => by
    obtain ⟨x', o', e, h⟩ := hcell k (by omega)
    cases e
    exact h
  have hx : x < w.heap.size := World.block_lt_of_cell? w _ (hcell 0 (by omega))
  have hB := hr.lt
  have hwd := hr.width
  rw [hl] at hcap ⊢
  go_enter Tryd.func47, Tryd.ntmps47
  go_wp2_with (first
    | (with_reducible refine at_n 4 ?_; refine wpList_allocI rfl 61 rfl .u64 80 zero_t64 ?_; intro w1 A1 s1 b1)
    | (with_reducible refine at_n 5 ?_; refine wpList_allocI rfl 61 rfl .u64 80 zero_t64 ?_; intro w2 A2 s2 b2; replace A1 := A1.below b2; have BB := below_then b1 b2; replace hwd := (hr.below BB).width))
  go_loopw [17] (fun i wr => ∃ (k : Nat) (ms : List Int), k ≤ 16 ∧ i = .int .i64 k ∧ Arr .u64 wr w.heap.size (List.replicate 80 0) ∧ Arr .u64 wr w1.heap.size ms ∧ ms.length = 80 ∧ (∀ j, j < 80 → at0 ms j = if j < k then word64 zs j else 0) ∧ Below w.heap.size w wr) (fun i _ => 16 - (intOf i).toNat)
  case atStart => exact ⟨0, List.replicate 80 0, by omega, rfl, A1, A2, by simp, fun j h => by rw [at0_rep, if_neg (by omega)], BB⟩
  case round =>
    clear A1 A2 BB hwd
    obtain ⟨k, ms, hk, rfl, A1, A2, hml, hms, BB⟩ := hrel
    by_cases hlt : k < 16
    · have hc : ∀ j, j < 8 → wr.cell? ⟨x, o + k * 8 + j, none⟩ = some (.int .u8 (at0 ((zs.drop (k * 8)).take 8) j)) := fun j hj => by
        have h1 := hcell (k * 8 + j) (by omega)
        rw [← Nat.add_assoc] at h1
        rw [BB.cell hx, h1]
        simp [at0, hj]
      have hbp : Bytes ((zs.drop (k * 8)).take 8) := fun y hy => hb y (List.mem_of_mem_drop (List.mem_of_mem_take hy))
      have hlp : ((zs.drop (k * 8)).take 8).length = 8 := by simp; omega
      generalize hps : (zs.drop (k * 8)).take 8 = ps at *
      clear hcell
      go_wp2
      have hlen : (k + 1) * 8 - k * 8 = 8 := by omega
      simp only [hlen]
      go_loopw [8, 30] (fun y j wq => ∃ (t : Nat), t ≤ 8 ∧ j = .int .i64 t ∧ y = .int .u64 (beF (ps.take t)) ∧ wq = wr) (fun _ j _ => 8 - (intOf j).toNat)
      case atStart => exact ⟨0, by omega, rfl, rfl, rfl⟩
      case round =>
        obtain ⟨t, ht, rfl, rfl, rfl⟩ := hrel
        by_cases hlt2 : t < 8
        · have hc0 := hc t hlt2
          have hbt := beF_lt t (ps.take t) (by simp [hlp]; omega) (fun y hy => hbp y (List.mem_of_mem_take hy))
          have hcb := hbp.at t
          have hsn : beF (ps.take (t + 1)) = beF (ps.take t) * 256 + at0 ps t := by rw [take_snoc ps t (by omega), beF_snoc]
          generalize at0 ps t = c at *
          have hyb : 0 ≤ beF (ps.take t) ∧ beF (ps.take t) < 72057594037927936 := by
            have hp : (256 : Int) ^ t ≤ 256 ^ 7 := by
              rcases (by omega : t = 0 ∨ t = 1 ∨ t = 2 ∨ t = 3 ∨ t = 4 ∨ t = 5 ∨ t = 6 ∨ t = 7) with rfl | rfl | rfl | rfl | rfl | rfl | rfl | rfl <;> decide
            omega
          generalize beF (ps.take t) = y at *
          have ho := or_be64 y c hyb hcb
          have hy0 := hyb.1
          have hy1 := hyb.2
          replace hsn := Lib.hid hsn
          clear hbt hyb hc
          go_wp2
          refine ⟨⟨t + 1, by omega, by go_num, ?_, by trivial⟩, by simp only [intOf]; omega⟩
          rw [hsn.out]
        · obtain rfl : t = 8 := by omega
          have hw : beF (ps.take 8) = word64 zs k := by rw [← hlp, List.take_length, ← hps]; rfl
          rw [hw]
          have f0 := A2.free (k := k) (by omega)
          have c0 := A2.cell (k := k) (by omega)
          clear hc
          go_wp2
          refine ⟨⟨k + 1, ms.set k (word64 zs k), by omega, by go_num, A1.setOther (by omega) _ _, A2.set _ _, by simp [hml], fun j hj => ?_, BB.setCell (by show w.heap.size ≤ w1.heap.size; omega) _⟩, by simp only [intOf]; omega⟩
          rw [at0_set ms k j _ (by omega)]
          by_cases e : j = k
          · rw [if_pos e, if_pos (by omega), e]
          · rw [if_neg e, hms j hj]
            by_cases e2 : j < k
            · rw [if_pos e2, if_pos (by omega)]
            · rw [if_neg e2, if_neg (by omega)]
    · obtain rfl : k = 16 := by omega
      have e : ms = sched64 zs 0 := eq_of_all (by rw [hml]; rfl) fun j h => by
        rw [hml] at h
        rw [hms j h]
        by_cases e : j < 16
        · rw [if_pos e]
          unfold sched64 at0
          rw [List.getElem?_append_left (by simpa using e)]; simp [e]
        · rw [if_neg e]
          have e2 := at0_rep 64 (j - 16)
          unfold sched64
          unfold at0 at e2 ⊢
          rw [List.getElem?_append_right (by simpa using e), List.length_map, List.length_range, e2]
      subst e
      clear hms hml hcell
      have hsl := sched64_len zs
      have hsi := sched64_in hb hl
      go_wp2
      go_loopw [11] (fun i wr => ∃ (i' : Nat), 16 ≤ i' ∧ i' ≤ 80 ∧ i = .int .i64 i' ∧ Arr .u64 wr w.heap.size (List.replicate 80 0) ∧ Arr .u64 wr w1.heap.size (sched64 zs (i' - 16)) ∧ Below w.heap.size w wr) (fun i _ => 80 - (intOf i).toNat)
      case atStart => exact ⟨16, by omega, by omega, rfl, A1, A2, BB⟩
      case round =>
        clear A1 A2 BB
        obtain ⟨i, hi0, hi1, rfl, A1, A2, BB⟩ := hrel
        have hr' := hr.below BB
        have hct := hr'.count
        by_cases hlt : i < 80
        · have hln := hsl (i - 16)
          have hin := hsi (i - 16)
          have hst : sched64 zs (i + 1 - 16) = (sched64 zs (i - 16)).set i (next64 (sched64 zs (i - 16)) i) := by
            rw [show i + 1 - 16 = (i - 16) + 1 by omega]
            show (sched64 zs (i - 16)).set (16 + (i - 16)) (next64 (sched64 zs (i - 16)) (16 + (i - 16))) = _
            rw [show 16 + (i - 16) = i by omega]
          generalize sched64 zs (i - 16) = ms at *
          have hat : ∀ j, j < 80 → In64 (at0 ms j) := fun j hj => hin _ (at0_mem (by omega))
          obtain ⟨j1, e1, n1⟩ : ∃ j : Nat, IntKind.i64.wrap ((i : Int) - 16) = (j : Int) ∧ i - 16 = j := ⟨i - 16, by rw [wrap_id64 (by omega) (by omega)]; omega, rfl⟩
          obtain ⟨j2, e2, n2⟩ : ∃ j : Nat, IntKind.i64.wrap ((i : Int) - 15) = (j : Int) ∧ i - 15 = j := ⟨i - 15, by rw [wrap_id64 (by omega) (by omega)]; omega, rfl⟩
          obtain ⟨j3, e3, n3⟩ : ∃ j : Nat, IntKind.i64.wrap ((i : Int) - 7) = (j : Int) ∧ i - 7 = j := ⟨i - 7, by rw [wrap_id64 (by omega) (by omega)]; omega, rfl⟩
          obtain ⟨j4, e4, n4⟩ : ∃ j : Nat, IntKind.i64.wrap ((i : Int) - 2) = (j : Int) ∧ i - 2 = j := ⟨i - 2, by rw [wrap_id64 (by omega) (by omega)]; omega, rfl⟩
          have b1 : (j1 : Int) < 80 := by omega
          have b2' : (j2 : Int) < 80 := by omega
          have b3 : (j3 : Int) < 80 := by omega
          have b4 : (j4 : Int) < 80 := by omega
          have b5 : (i : Int) < 80 := by omega
          have c1 := A2.cell (k := j1) (by omega)
          have c2 := A2.cell (k := j2) (by omega)
          have c3 := A2.cell (k := j3) (by omega)
          have c4 := A2.cell (k := j4) (by omega)
          have nx : next64 ms i = (at0 ms j1 + lowA64 (at0 ms j2) + at0 ms j3 + lowB64 (at0 ms j4)) % 18446744073709551616 := by unfold next64; rw [n1, n2, n3, n4]
          replace nx := Lib.hid nx
          clear n1 n2 n3 n4
          have c5 := A2.cell (k := i) (by omega)
          have f5 := A2.free (k := i) (by omega)
          have HA := fun W => lowA64_v (at0 ms j2) W (hat _ (by omega))
          have HB := fun W => lowB64_v (at0 ms j4) W (hat _ (by omega))
          obtain ⟨f10, f11, f12, f13⟩ := hr'.fn
          replace hst := Lib.hid hst
          clear hin hsi hsl
          go_wp2
          go_still_tail 31, (by kernel_rfl)
          still_call (HA _)
          repeat still_step
          still_call (HB _)
          repeat still_step
          refine wpStill_nil ?_
          change wpList _ _ _ _ _ wr.drew
          go_wp2
          refine ⟨?_, ?_⟩
          · refine Exists.intro (Value.int .i64 ((i : Int) + 1)) ?_
            repeat apply Exists.intro (α := Value)
            refine ⟨⟨i + 1, by omega, by omega, by go_num, ?_, ?_, ?_⟩, rfl⟩
            · exact (arr_drew A1).setOther (by omega) _ _
            · rw [hst.out, nx.out]
              try simp only [IntKind.wrap_u64, Int.emod_add_emod]
              exact arr_drew (A2.set i _)
            · exact BB.drew.setCell (by show w.heap.size ≤ w1.heap.size; omega) _
          · show 80 - (intOf (Value.int .i64 ((i : Int) + 1))).toNat < 80 - (intOf (Value.int .i64 (i : Int))).toNat
            simp only [intOf]; omega
        · obtain rfl : i = 80 := by omega
          have hln := hsl (80 - 16)
          go_wp2_with (first
            | (with_reducible refine at_n 83 ?_; refine wpList_loadI rfl 61 _ rfl 80 49 und_t64 info_t64 w1.heap.size rfl .u64 _ A2 hln ?_)
            | (with_reducible refine at_op (o := ⟨_, .store 61 _ _, _, _, _, _⟩) ?_; refine wpList_storeI rfl 61 _ _ rfl 80 info_t64 w.heap.size rfl .u64 _ _ rfl A1 (by simp) hln ?_; intro A3))
          refine bodyPost_ret (results_cellI rfl _ 80 49 und_t64 info_t64 w.heap.size rfl .u64 _ A3 hln) rfl ?_
          exact ⟨rfl, below_row BB (Nat.le_refl _) _⟩
theorem zero_t32 : (Tryd.prog.info? 64).bind (·.zero) = some (.agg (Array.replicate 80 (Value.int .u32 0))) := by kernel_rfl
theorem info_t32 : (Tryd.prog.info? 64).map (·.size) = some 80 := by kernel_rfl
theorem und_t32 : Tryd.prog.underlying 64 = some (.array 80 39) := by kernel_rfl
theorem or_be32 (x c : Int) (hx : 0 ≤ x ∧ x < 16777216) (hc : 0 ≤ c ∧ c ≤ 255) : bits BinOp.or .u32 (x * 256) c = x * 256 + c := by
  obtain ⟨a, rfl⟩ := Int.eq_ofNat_of_zero_le hx.1
  obtain ⟨b, rfl⟩ := Int.eq_ofNat_of_zero_le hc.1
  have h := u32_or_nat (a * 256) b (by omega) (by omega)
  rw [show (((a * 256 : Nat) : Int)) = (a : Int) * 256 by simp] at h
  rw [h, nat_or_add (a * 256) b 8 (by omega) (by omega)]
  simp
/-- The words of a block. -/
def word32 (zs : List Int) (i : Nat) : Int := beF ((zs.drop (i * 4)).take 4)
theorem word32_in {zs : List Int} (hb : Bytes zs) {i : Nat} (h : (i + 1) * 4 ≤ zs.length) : In32 (word32 zs i) := by
  have := beF_lt 4 ((zs.drop (i * 4)).take 4) (by simp; omega) (fun x hx => hb x (List.mem_of_mem_drop (List.mem_of_mem_take hx)))
  unfold In32 word32
  omega
def next32 (m : List Int) (i : Nat) : Int := (at0 m (i - 16) + lowA32 (at0 m (i - 15)) + at0 m (i - 7) + lowB32 (at0 m (i - 2))) % 4294967296
def sched32 (zs : List Int) : Nat → List Int
  | 0 => (List.range 16).map (word32 zs) ++ List.replicate 64 0
  | k + 1 => (sched32 zs k).set (16 + k) (next32 (sched32 zs k) (16 + k))
theorem sched32_len (zs : List Int) : ∀ k, (sched32 zs k).length = 80
  | 0 => by simp [sched32]
  | k + 1 => by simp [sched32, sched32_len zs k]
theorem sched32_in {zs : List Int} (hb : Bytes zs) (hl : zs.length = 64) : ∀ k x, x ∈ sched32 zs k → In32 x
  | 0, x, hx => by
    rcases List.mem_append.1 hx with h | h
    · obtain ⟨i, hi, rfl⟩ := List.mem_map.1 h
      exact word32_in hb (by have := List.mem_range.1 hi; omega)
    · obtain ⟨-, rfl⟩ := List.mem_replicate.1 h
      unfold In32; omega
  | k + 1, x, hx => by
    rcases List.mem_or_eq_of_mem_set hx with h | rfl
    · exact sched32_in hb hl k x h
    · unfold In32 next32; omega
set_option maxHeartbeats 1000000 in
theorem schedule32_v (w : World) (B : Nat) (st : List Int) (hr : RS32 w B st) (v : Value) (zs : List Int) (hv : RdI .u8 w v zs) (hb : Bytes zs) (hl : zs.length = 64) :
    Calls Tryd.prog 45 #[.pointer (some ⟨B, 0, none⟩), v] w fun e w' => e = .returned (aggI .u32 (sched32 zs 48)) ∧ Below w.heap.size w w' := by
  obtain ⟨a, cap, rfl, hcap, hmax, hcell, -⟩ := hv
  obtain ⟨x, o, rfl, -⟩ := hcell 0 (by omega)
  replace hcell : ∀ k, k < 64 → w.cell? ⟨x, o + k, none⟩ = some (.int .u8 (at0 zs k)) := fun k hk => by
    obtain ⟨x', o', e, h⟩ := hcell k (by omega)
    cases e
    exact h
  have hx : x < w.heap.size := World.block_lt_of_cell? w _ (hcell 0 (by omega))
  have hB := hr.lt
  have hwd := hr.width
  rw [hl] at hcap ⊢
  go_enter Tryd.func45, Tryd.ntmps45
  go_wp2_with (first
    | (with_reducible refine at_n 4 ?_; refine wpList_allocI rfl 64 rfl .u32 80 zero_t32 ?_; intro w1 A1 s1 b1)
    | (with_reducible refine at_n 5 ?_; refine wpList_allocI rfl 64 rfl .u32 80 zero_t32 ?_; intro w2 A2 s2 b2; replace A1 := A1.below b2; have BB := below_then b1 b2; replace hwd := (hr.below BB).width))
  go_loopw [17] (fun i wr => ∃ (k : Nat) (ms : List Int), k ≤ 16 ∧ i = .int .i64 k ∧ Arr .u32 wr w.heap.size (List.replicate 80 0) ∧ Arr .u32 wr w1.heap.size ms ∧ ms.length = 80 ∧ (∀ j, j < 80 → at0 ms j = if j < k then word32 zs j else 0) ∧ Below w.heap.size w wr) (fun i _ => 16 - (intOf i).toNat)
  case atStart => exact ⟨0, List.replicate 80 0, by omega, rfl, A1, A2, by simp, fun j h => by rw [at0_rep, if_neg (by omega)], BB⟩
  case round =>
    clear A1 A2 BB hwd
    obtain ⟨k, ms, hk, rfl, A1, A2, hml, hms, BB⟩ := hrel
    by_cases hlt : k < 16
    · have hc : ∀ j, j < 4 → wr.cell? ⟨x, o + k * 4 + j, none⟩ = some (.int .u8 (at0 ((zs.drop (k * 4)).take 4) j)) := fun j hj => by
        have h1 := hcell (k * 4 + j) (by omega)
        rw [← Nat.add_assoc] at h1
        rw [BB.cell hx, h1]
        simp [at0, hj]
      have hbp : Bytes ((zs.drop (k * 4)).take 4) := fun y hy => hb y (List.mem_of_mem_drop (List.mem_of_mem_take hy))
      have hlp : ((zs.drop (k * 4)).take 4).length = 4 := by simp; omega
      generalize hps : (zs.drop (k * 4)).take 4 = ps at *
      clear hcell
      go_wp2
      have hlen : (k + 1) * 4 - k * 4 = 4 := by omega
      simp only [hlen]
      go_loopw [8, 30] (fun y j wq => ∃ (t : Nat), t ≤ 4 ∧ j = .int .i64 t ∧ y = .int .u32 (beF (ps.take t)) ∧ wq = wr) (fun _ j _ => 4 - (intOf j).toNat)
      case atStart => exact ⟨0, by omega, rfl, rfl, rfl⟩
      case round =>
        obtain ⟨t, ht, rfl, rfl, rfl⟩ := hrel
        by_cases hlt2 : t < 4
        · have hc0 := hc t hlt2
          have hbt := beF_lt t (ps.take t) (by simp [hlp]; omega) (fun y hy => hbp y (List.mem_of_mem_take hy))
          have hcb := hbp.at t
          have hsn : beF (ps.take (t + 1)) = beF (ps.take t) * 256 + at0 ps t := by rw [take_snoc ps t (by omega), beF_snoc]
          generalize at0 ps t = c at *
          have hyb : 0 ≤ beF (ps.take t) ∧ beF (ps.take t) < 16777216 := by
            have hp : (256 : Int) ^ t ≤ 256 ^ 3 := by
              rcases (by omega : t = 0 ∨ t = 1 ∨ t = 2 ∨ t = 3) with rfl | rfl | rfl | rfl <;> decide
            omega
          generalize beF (ps.take t) = y at *
          have ho := or_be32 y c hyb hcb
          have hy0 := hyb.1
          have hy1 := hyb.2
          replace hsn := Lib.hid hsn
          clear hbt hyb hc
          go_wp2
          refine ⟨⟨t + 1, by omega, by go_num, ?_, by trivial⟩, by simp only [intOf]; omega⟩
          rw [hsn.out]
        · obtain rfl : t = 4 := by omega
          have hw : beF (ps.take 4) = word32 zs k := by rw [← hlp, List.take_length, ← hps]; rfl
          rw [hw]
          have f0 := A2.free (k := k) (by omega)
          have c0 := A2.cell (k := k) (by omega)
          clear hc
          go_wp2
          refine ⟨⟨k + 1, ms.set k (word32 zs k), by omega, by go_num, A1.setOther (by omega) _ _, A2.set _ _, by simp [hml], fun j hj => ?_, BB.setCell (by show w.heap.size ≤ w1.heap.size; omega) _⟩, by simp only [intOf]; omega⟩
          rw [at0_set ms k j _ (by omega)]
          by_cases e : j = k
          · rw [if_pos e, if_pos (by omega), e]
          · rw [if_neg e, hms j hj]
            by_cases e2 : j < k
            · rw [if_pos e2, if_pos (by omega)]
            · rw [if_neg e2, if_neg (by omega)]
    · obtain rfl : k = 16 := by omega
      have e : ms = sched32 zs 0 := eq_of_all (by rw [hml]; rfl) fun j h => by
        rw [hml] at h
        rw [hms j h]
        by_cases e : j < 16
        · rw [if_pos e]
          unfold sched32 at0
          rw [List.getElem?_append_left (by simpa using e)]; simp [e]
        · rw [if_neg e]
          have e2 := at0_rep 64 (j - 16)
          unfold sched32
          unfold at0 at e2 ⊢
          rw [List.getElem?_append_right (by simpa using e), List.length_map, List.length_range, e2]
      subst e
      clear hms hml hcell
      have hsl := sched32_len zs
      have hsi := sched32_in hb hl
      go_wp2
      go_loopw [11] (fun i wr => ∃ (i' : Nat), 16 ≤ i' ∧ i' ≤ 64 ∧ i = .int .i64 i' ∧ Arr .u32 wr w.heap.size (List.replicate 80 0) ∧ Arr .u32 wr w1.heap.size (sched32 zs (i' - 16)) ∧ Below w.heap.size w wr) (fun i _ => 64 - (intOf i).toNat)
      case atStart => exact ⟨16, by omega, by omega, rfl, A1, A2, BB⟩
      case round =>
        clear A1 A2 BB
        obtain ⟨i, hi0, hi1, rfl, A1, A2, BB⟩ := hrel
        have hr' := hr.below BB
        have hct := hr'.count
        by_cases hlt : i < 64
        · have hln := hsl (i - 16)
          have hin := hsi (i - 16)
          have hst : sched32 zs (i + 1 - 16) = (sched32 zs (i - 16)).set i (next32 (sched32 zs (i - 16)) i) := by
            rw [show i + 1 - 16 = (i - 16) + 1 by omega]
            show (sched32 zs (i - 16)).set (16 + (i - 16)) (next32 (sched32 zs (i - 16)) (16 + (i - 16))) = _
            rw [show 16 + (i - 16) = i by omega]
          generalize sched32 zs (i - 16) = ms at *
          have hat : ∀ j, j < 80 → In32 (at0 ms j) := fun j hj => hin _ (at0_mem (by omega))
          obtain ⟨j1, e1, n1⟩ : ∃ j : Nat, IntKind.i64.wrap ((i : Int) - 16) = (j : Int) ∧ i - 16 = j := ⟨i - 16, by rw [wrap_id64 (by omega) (by omega)]; omega, rfl⟩
          obtain ⟨j2, e2, n2⟩ : ∃ j : Nat, IntKind.i64.wrap ((i : Int) - 15) = (j : Int) ∧ i - 15 = j := ⟨i - 15, by rw [wrap_id64 (by omega) (by omega)]; omega, rfl⟩
          obtain ⟨j3, e3, n3⟩ : ∃ j : Nat, IntKind.i64.wrap ((i : Int) - 7) = (j : Int) ∧ i - 7 = j := ⟨i - 7, by rw [wrap_id64 (by omega) (by omega)]; omega, rfl⟩
          obtain ⟨j4, e4, n4⟩ : ∃ j : Nat, IntKind.i64.wrap ((i : Int) - 2) = (j : Int) ∧ i - 2 = j := ⟨i - 2, by rw [wrap_id64 (by omega) (by omega)]; omega, rfl⟩
          have b1 : (j1 : Int) < 80 := by omega
          have b2' : (j2 : Int) < 80 := by omega
          have b3 : (j3 : Int) < 80 := by omega
          have b4 : (j4 : Int) < 80 := by omega
          have b5 : (i : Int) < 80 := by omega
          have c1 := A2.cell (k := j1) (by omega)
          have c2 := A2.cell (k := j2) (by omega)
          have c3 := A2.cell (k := j3) (by omega)
          have c4 := A2.cell (k := j4) (by omega)
          have nx : next32 ms i = (at0 ms j1 + lowA32 (at0 ms j2) + at0 ms j3 + lowB32 (at0 ms j4)) % 4294967296 := by unfold next32; rw [n1, n2, n3, n4]
          replace nx := Lib.hid nx
          clear n1 n2 n3 n4
          have c5 := A2.cell (k := i) (by omega)
          have f5 := A2.free (k := i) (by omega)
          have HA := fun W => lowA32_v (at0 ms j2) W (hat _ (by omega))
          have HB := fun W => lowB32_v (at0 ms j4) W (hat _ (by omega))
          obtain ⟨f10, f11, f12, f13⟩ := hr'.fn
          replace hst := Lib.hid hst
          clear hin hsi hsl
          go_wp2
          go_still_tail 31, (by kernel_rfl)
          still_call (HA _)
          repeat still_step
          still_call (HB _)
          repeat still_step
          refine wpStill_nil ?_
          change wpList _ _ _ _ _ wr.drew
          go_wp2
          refine ⟨?_, ?_⟩
          · refine Exists.intro (Value.int .i64 ((i : Int) + 1)) ?_
            repeat apply Exists.intro (α := Value)
            refine ⟨⟨i + 1, by omega, by omega, by go_num, ?_, ?_, ?_⟩, rfl⟩
            · exact (arr_drew A1).setOther (by omega) _ _
            · rw [hst.out, nx.out]
              try simp only [IntKind.wrap_u64, Int.emod_add_emod]
              exact arr_drew (A2.set i _)
            · exact BB.drew.setCell (by show w.heap.size ≤ w1.heap.size; omega) _
          · show 64 - (intOf (Value.int .i64 ((i : Int) + 1))).toNat < 64 - (intOf (Value.int .i64 (i : Int))).toNat
            simp only [intOf]; omega
        · obtain rfl : i = 64 := by omega
          have hln := hsl (64 - 16)
          go_wp2_with (first
            | (with_reducible refine at_n 83 ?_; refine wpList_loadI rfl 64 _ rfl 80 39 und_t32 info_t32 w1.heap.size rfl .u32 _ A2 hln ?_)
            | (with_reducible refine at_op (o := ⟨_, .store 64 _ _, _, _, _, _⟩) ?_; refine wpList_storeI rfl 64 _ _ rfl 80 info_t32 w.heap.size rfl .u32 _ _ rfl A1 (by simp) hln ?_; intro A3))
          refine bodyPost_ret (results_cellI rfl _ 80 39 und_t32 info_t32 w.heap.size rfl .u32 _ A3 hln) rfl ?_
          exact ⟨rfl, below_row BB (Nat.le_refl _) _⟩
end Go.Proofs.YtohnicmacmkapaaDoor
namespace Go.Proofs.YtohnicmacmkapaaDoor
open Go.RowKit
set_option linter.unusedVariables false
set_option maxRecDepth 8000

theorem TabS.drewN {w : World} (h : TabS w) (n : Nat) : TabS (w.drewN n) := h.below (below_drewN (Below.refl _ _) n)
theorem grown_below {w w' : World} (h : Below w.heap.size w w') (B : Nat) : w.grownBy w' (some B) := ⟨h.os, h.tape, h.output, h.size, fun k hk _ => h.block k hk⟩
theorem grown_row (w : World) (g : Nat) (cs : Array Value) : w.grownBy (w.setRow g cs) (some g) := by
  refine ⟨rfl, rfl, rfl, by simp [World.setRow], fun k hk hne => ?_⟩
  rw [setRow_other w g k cs (by simpa using hne)]
theorem mod_in64 (x : Int) : In64 (x % 18446744073709551616) := by unfold In64; omega
structure Eight64 where
  (a b c d e f g h : Int)
def Eight64.ok (v : Eight64) : Prop := In64 v.a ∧ In64 v.b ∧ In64 v.c ∧ In64 v.d ∧ In64 v.e ∧ In64 v.f ∧ In64 v.g ∧ In64 v.h
def not64 (e : Int) : Int := bits BinOp.xor .u64 (if IntKind.u64.signed = true then -1 else IntKind.u64.max) e
def tt64 (m : List Int) (i : Nat) (v : Eight64) : Int := (v.h + bigB64 v.e + bits BinOp.xor .u64 (bits BinOp.and .u64 v.e v.f) (bits BinOp.and .u64 (not64 v.e) v.g) + at0 cubesL i + at0 m i) % 18446744073709551616
def uu64 (v : Eight64) : Int := (bigA64 v.a + bits BinOp.xor .u64 (bits BinOp.xor .u64 (bits BinOp.and .u64 v.a v.b) (bits BinOp.and .u64 v.a v.c)) (bits BinOp.and .u64 v.b v.c)) % 18446744073709551616
def round64 (m : List Int) (i : Nat) (v : Eight64) : Eight64 := ⟨(tt64 m i v + uu64 v) % 18446744073709551616, v.a, v.b, v.c, (v.d + tt64 m i v) % 18446744073709551616, v.e, v.f, v.g⟩
def rounds64 (m : List Int) (v : Eight64) : Nat → Eight64
  | 0 => v
  | i + 1 => round64 m i (rounds64 m v i)
theorem rounds64_ok {m : List Int} {v : Eight64} (h : v.ok) : ∀ i, (rounds64 m v i).ok
  | 0 => h
  | i + 1 => by
    obtain ⟨h0, h1, h2, h3, h4, h5, h6, h7⟩ := rounds64_ok (m := m) h i
    exact ⟨mod_in64 _, h0, h1, h2, mod_in64 _, h4, h5, h6⟩
def eight64 (st : List Int) : Eight64 := ⟨at0 st 0, at0 st 1, at0 st 2, at0 st 3, at0 st 4, at0 st 5, at0 st 6, at0 st 7⟩
def Eight64.list (v : Eight64) : List Int := [v.a, v.b, v.c, v.d, v.e, v.f, v.g, v.h]
/-- The state behind a block. -/
def take64 (st zs : List Int) : List Int := (List.range 8).map fun j => (at0 st j + at0 (rounds64 (sched64 zs 64) (eight64 st) 80).list j) % 18446744073709551616
set_option maxHeartbeats 4000000 in
theorem take64_v (w : World) (B : Nat) (st : List Int) (hr : RS64 w B st) (hT : TabS w) (hs : 0 ≠ B) (hc : 3 ≠ B) (v : Value) (zs : List Int) (hv : RdI .u8 w v zs) (hb : Bytes zs) (hl : zs.length = 128) :
    Calls Tryd.prog 43 #[.pointer (some ⟨B, 0, none⟩), v] w fun e w' => (∃ v, e = .returned v) ∧ RS64 w' B (take64 st zs) ∧ w.grownBy w' (some B) := by
  have hB := hr.lt
  have hml := sched64_len zs 64
  have hmi := sched64_in hb hl 64
  have HS := fun W (h : RS64 W B st) (hv : RdI .u8 W v zs) => schedule64_v W B st h v zs hv hb hl
  have htk : take64 st zs = (List.range 8).map fun j => (at0 st j + at0 (rounds64 (sched64 zs 64) (eight64 st) 80).list j) % 18446744073709551616 := rfl
  generalize sched64 zs 64 = ms at *
  have h8 : (eight64 st).ok := ⟨hr.stIn 0, hr.stIn 1, hr.stIn 2, hr.stIn 3, hr.stIn 4, hr.stIn 5, hr.stIn 6, hr.stIn 7⟩
  have he8 : eight64 st = ⟨at0 st 0, at0 st 1, at0 st 2, at0 st 3, at0 st 4, at0 st 5, at0 st 6, at0 st 7⟩ := rfl
  go_enter Tryd.func43, Tryd.ntmps43
  go_wp2_with (first
    | (go_at_call 47; (with_reducible refine (HS _ hr hv).mono ?_); rintro e w1 ⟨rfl, b1⟩)
    | (with_reducible refine at_n 4 ?_; refine wpList_allocI rfl 61 rfl .u64 80 zero_t64 ?_; intro w2 A2 s2 b2; have BB := below_then b1 b2; have hr2 := hr.below BB; have hT2 := hT.below BB)
    | (with_reducible refine at_op (o := ⟨_, .store 61 _ _, _, _, _, _⟩) ?_; refine wpList_storeI rfl 61 _ _ rfl 80 info_t64 w1.heap.size rfl .u64 _ _ rfl A2 (by simp) hml ?_; intro A3))
  have hs1 := b1.size
  have hr3 : RS64 (w2.setRow w1.heap.size (ms.map (Value.int .u64)).toArray) B st := hr2.but (grown_row _ _ _) (by simp; omega)
  have hT3 : TabS (w2.setRow w1.heap.size (ms.map (Value.int .u64)).toArray) := hT2.but (grown_row _ _ _) (by have := hT.lt.1; have := b1.size; omega) (by have := hT.lt.2; have := b1.size; omega)
  have BB3 := below_row BB (g := w1.heap.size) b1.size (ms.map (Value.int .u64)).toArray
  generalize w2.setRow w1.heap.size (ms.map (Value.int .u64)).toArray = w3 at *
  clear hr2 hT2 A2 BB HS
  have s0 : w3.cell? ⟨B, 2, none⟩ = some (.int .u64 (at0 st 0)) := (hr3.stAt (j := 0) (by decide)).1
  have s1 : w3.cell? ⟨B, 3, none⟩ = some (.int .u64 (at0 st 1)) := (hr3.stAt (j := 1) (by decide)).1
  have s2 : w3.cell? ⟨B, 4, none⟩ = some (.int .u64 (at0 st 2)) := (hr3.stAt (j := 2) (by decide)).1
  have s3 : w3.cell? ⟨B, 5, none⟩ = some (.int .u64 (at0 st 3)) := (hr3.stAt (j := 3) (by decide)).1
  have s4 : w3.cell? ⟨B, 6, none⟩ = some (.int .u64 (at0 st 4)) := (hr3.stAt (j := 4) (by decide)).1
  have s5 : w3.cell? ⟨B, 7, none⟩ = some (.int .u64 (at0 st 5)) := (hr3.stAt (j := 5) (by decide)).1
  have s6 : w3.cell? ⟨B, 8, none⟩ = some (.int .u64 (at0 st 6)) := (hr3.stAt (j := 6) (by decide)).1
  have s7 : w3.cell? ⟨B, 9, none⟩ = some (.int .u64 (at0 st 7)) := (hr3.stAt (j := 7) (by decide)).1
  have hct := hr3.count
  have hml' := hml
  go_quiet (fail)
  go_wp2
  go_quiet (fail)
  go_wp2
  have he : rounds64 ms (eight64 st) 0 = eight64 st := rfl
  generalize hv0 : eight64 st = v0 at *
  go_loopw [5, 6, 7, 8, 9, 10, 11, 12, 65] (fun a b c d e f g h i wr => ∃ (k : Nat), k ≤ 80 ∧ i = .int .i64 k ∧ a = .int .u64 (rounds64 ms v0 k).a ∧ b = .int .u64 (rounds64 ms v0 k).b ∧ c = .int .u64 (rounds64 ms v0 k).c ∧ d = .int .u64 (rounds64 ms v0 k).d ∧ e = .int .u64 (rounds64 ms v0 k).e ∧ f = .int .u64 (rounds64 ms v0 k).f ∧ g = .int .u64 (rounds64 ms v0 k).g ∧ h = .int .u64 (rounds64 ms v0 k).h ∧ RS64 wr B st ∧ TabS wr ∧ Arr .u64 wr w1.heap.size ms ∧ Below w.heap.size w wr) (fun _ _ _ _ _ _ _ _ i _ => 80 - (intOf i).toNat)
  case atStart =>
    refine ⟨0, by omega, rfl, ?_, ?_, ?_, ?_, ?_, ?_, ?_, ?_, hr3, hT3.drewN _, A3, below_drewN BB3 _⟩ <;> (rw [he, he8])
  case round =>
    clear hr3 hT3 A3 BB3 s0 s1 s2 s3 s4 s5 s6 s7 hct
    obtain ⟨k, hk, rfl, rfl, rfl, rfl, rfl, rfl, rfl, rfl, rfl, hr3, hT3, A3, BB3⟩ := hrel
    by_cases hlt : k < 80
    · have hok := rounds64_ok (m := ms) h8 k
      have hnx : rounds64 ms v0 (k + 1) = round64 ms k (rounds64 ms v0 k) := rfl
      rcases hv : rounds64 ms v0 k with ⟨a, b, c, d, e, f, g, h⟩
      rw [hv] at hok hnx
      obtain ⟨⟨a0, a1⟩, ⟨b0, b1'⟩, ⟨c0, c1⟩, ⟨d0, d1⟩, ⟨e0, e1⟩, ⟨f0, f1⟩, ⟨g0, g1⟩, ⟨h0, h1⟩⟩ := hok
      dsimp only at a0 a1 b0 b1' c0 c1 d0 d1 e0 e1 f0 f1 g0 g1 h0 h1
      have hcu := hT3.cu k (by omega)
      have hci := cubes_in k (by omega)
      have HC := fun W (h : RS64 W B st) => cut64_v (at0 cubesL k) W B st h hci
      have HB := fun W => bigB64_v e W ⟨e0, e1⟩
      have HA := fun W => bigA64_v a W ⟨a0, a1⟩
      have hms := A3.cell (k := k) (by omega)
      obtain ⟨f10, f11, f12, f13⟩ := hr3.fn
      have hk80 : (k : Int) < 80 := by omega
      replace hnx := Lib.hid hnx
      clear hv hmi htk he
      go_wp2
      go_quiet (first | (go_at_call 29; exact Calls.quiet_of_same (HB _)) | (go_at_call 42; exact Calls.quiet_of_same (HC _ hr3)))
      go_wp2_with (first
        | (go_at_call 27; (with_reducible refine (HA _).mono ?_); rintro e w9 ⟨rfl, rfl⟩))
      refine ⟨⟨k + 1, by omega, by go_num, ?_, congrArg (Value.int .u64) (congrArg Eight64.b hnx.out).symm, congrArg (Value.int .u64) (congrArg Eight64.c hnx.out).symm, congrArg (Value.int .u64) (congrArg Eight64.d hnx.out).symm, ?_, congrArg (Value.int .u64) (congrArg Eight64.f hnx.out).symm, congrArg (Value.int .u64) (congrArg Eight64.g hnx.out).symm, congrArg (Value.int .u64) (congrArg Eight64.h hnx.out).symm, hr3, hT3.drewN _, A3, below_drewN BB3 _⟩, by simp only [intOf]; omega⟩ <;> rw [hnx.out]
      · show _ = Value.int .u64 ((tt64 ms k ⟨a, b, c, d, e, f, g, h⟩ + uu64 ⟨a, b, c, d, e, f, g, h⟩) % 18446744073709551616)
        unfold tt64 uu64 not64
        first | rfl | (simp only [IntKind.wrap_u64, Int.emod_add_emod, Int.add_emod_emod])
      · show _ = Value.int .u64 ((d + tt64 ms k ⟨a, b, c, d, e, f, g, h⟩) % 18446744073709551616)
        unfold tt64 not64
        first | rfl | (simp only [IntKind.wrap_u64, Int.emod_add_emod, Int.add_emod_emod])
    · obtain rfl : k = 80 := by omega
      have hok := rounds64_ok (m := ms) h8 80
      rcases hv : rounds64 ms v0 80 with ⟨a, b, c, d, e, f, g, h⟩
      rw [hv] at hok htk
      obtain ⟨⟨a0, a1⟩, ⟨b0, b1'⟩, ⟨c0, c1⟩, ⟨d0, d1⟩, ⟨e0, e1⟩, ⟨f0, f1⟩, ⟨g0, g1⟩, ⟨h0, h1⟩⟩ := hok
      dsimp only at a0 a1 b0 b1' c0 c1 d0 d1 e0 e1 f0 f1 g0 g1 h0 h1
      have hg := grown_below BB3 B
      replace htk := Lib.hid htk
      clear hv hmi he
      go_wp2
      rw [show Value.agg #[.int .u64 a, .int .u64 b, .int .u64 c, .int .u64 d, .int .u64 e, .int .u64 f, .int .u64 g, .int .u64 h] = aggI .u64 [a, b, c, d, e, f, g, h] from rfl]
      have hls : ([a, b, c, d, e, f, g, h] : List Int).length = 8 := rfl
      have hlv : (Eight64.list ⟨a, b, c, d, e, f, g, h⟩) = [a, b, c, d, e, f, g, h] := rfl
      replace hlv := Lib.hid hlv
      generalize ([a, b, c, d, e, f, g, h] : List Int) = ls at *
      clear a0 a1 b0 b1' c0 c1 d0 d1 e0 e1 f0 f1 g0 g1 h0 h1 BB3 A3 hT3
      go_loopw [135] (fun i wr => ∃ (j : Nat) (su : List Int), j ≤ 8 ∧ i = .int .i64 j ∧ RS64 wr B su ∧ w.grownBy wr (some B) ∧ (∀ q, q < 8 → at0 su q = if q < j then (at0 st q + at0 ls q) % 18446744073709551616 else at0 st q)) (fun i _ => 8 - (intOf i).toNat)
      case atStart => exact ⟨0, st, by omega, rfl, hr3, hg, fun q hq => by rw [if_neg (by omega)]⟩
      case round =>
        clear hr3 hg
        obtain ⟨j, su, hj, rfl, hr3, hg, hsu⟩ := hrel
        by_cases hjl : j < 8
        · have hix : ∀ w, (Instr.index 52 (aggI .u64 ls) (.int .i64 (j : Int))).run Tryd.prog w = .ok (.int .u64 (at0 ls j)) w := fun w => by
            have h := run_indexI (w := w) (P := Tryd.prog) 52 8 49 Tryd.underlying52 _ Tryd.underlying49 rfl (by kernel_rfl) .u64 ls hls (j : Int) (by omega) (by omega)
            rwa [Int.toNat_natCast] at h
          obtain ⟨cj, fj⟩ := hr3.stAt hjl
          have hsj := hsu j hjl
          rw [if_neg (by omega)] at hsj
          rw [hsj] at cj
          have hjI : (j : Int) < 8 := by omega
          replace hsj := Lib.hid hsj
          replace hsu := Lib.hid hsu
          go_wp2
          go_still_tail 11, (by kernel_rfl)
          change wpList _ _ _ _ _ wr.drew
          go_wp2
          refine ⟨?_, ?_⟩
          · apply Exists.intro (α := Value)
            apply Exists.intro (α := Value)
            refine Exists.intro (Value.int .i64 ((j : Int) + 1)) ?_
            repeat apply Exists.intro (α := Value)
            refine ⟨⟨j + 1, su.set j ((at0 st j + at0 ls j) % 18446744073709551616), by omega, by go_num, ?_, ?_, fun q hq => ?_⟩, rfl⟩
            · try simp only [IntKind.wrap_u64]
              have h := hr3.set hjl (mod_in64 (at0 st j + at0 ls j))
              exact h
            · exact grown_drew (grown_set hg _ _)
            · rw [at0_set su j q _ (by rw [hr3.1]; exact hjl)]
              by_cases e : q = j
              · rw [if_pos e, if_pos (by omega), e]
              · rw [if_neg e, hsu.out q hq]
                by_cases e2 : q < j
                · rw [if_pos e2, if_pos (by omega)]
                · rw [if_neg e2, if_neg (by omega)]
          · show 8 - (intOf (Value.int .i64 ((j : Int) + 1))).toNat < 8 - (intOf (Value.int .i64 (j : Int))).toNat
            simp only [intOf]; omega
        · obtain rfl : j = 8 := by omega
          have e : su = take64 st zs := eq_of_all (by rw [hr3.1, htk.out]; simp) fun q hq => by
            rw [hr3.1] at hq
            rw [hsu q hq, if_pos hq, htk.out, hlv.out]
            simp [at0, hq]
          subst e
          go_wp2
          refine bodyPost_end (results_none rfl _ _ _) rfl ?_
          exact ⟨⟨_, rfl⟩, hr3, hg⟩
theorem mod_in32 (x : Int) : In32 (x % 4294967296) := by unfold In32; omega
structure Eight32 where
  (a b c d e f g h : Int)
def Eight32.ok (v : Eight32) : Prop := In32 v.a ∧ In32 v.b ∧ In32 v.c ∧ In32 v.d ∧ In32 v.e ∧ In32 v.f ∧ In32 v.g ∧ In32 v.h
def not32 (e : Int) : Int := bits BinOp.xor .u32 (if IntKind.u32.signed = true then -1 else IntKind.u32.max) e
def tt32 (m : List Int) (i : Nat) (v : Eight32) : Int := (v.h + bigB32 v.e + bits BinOp.xor .u32 (bits BinOp.and .u32 v.e v.f) (bits BinOp.and .u32 (not32 v.e) v.g) + at0 cubesL i / 4294967296 + at0 m i) % 4294967296
def uu32 (v : Eight32) : Int := (bigA32 v.a + bits BinOp.xor .u32 (bits BinOp.xor .u32 (bits BinOp.and .u32 v.a v.b) (bits BinOp.and .u32 v.a v.c)) (bits BinOp.and .u32 v.b v.c)) % 4294967296
def round32 (m : List Int) (i : Nat) (v : Eight32) : Eight32 := ⟨(tt32 m i v + uu32 v) % 4294967296, v.a, v.b, v.c, (v.d + tt32 m i v) % 4294967296, v.e, v.f, v.g⟩
def rounds32 (m : List Int) (v : Eight32) : Nat → Eight32
  | 0 => v
  | i + 1 => round32 m i (rounds32 m v i)
theorem rounds32_ok {m : List Int} {v : Eight32} (h : v.ok) : ∀ i, (rounds32 m v i).ok
  | 0 => h
  | i + 1 => by
    obtain ⟨h0, h1, h2, h3, h4, h5, h6, h7⟩ := rounds32_ok (m := m) h i
    exact ⟨mod_in32 _, h0, h1, h2, mod_in32 _, h4, h5, h6⟩
def eight32 (st : List Int) : Eight32 := ⟨at0 st 0, at0 st 1, at0 st 2, at0 st 3, at0 st 4, at0 st 5, at0 st 6, at0 st 7⟩
def Eight32.list (v : Eight32) : List Int := [v.a, v.b, v.c, v.d, v.e, v.f, v.g, v.h]
/-- The state behind a block. -/
def take32 (st zs : List Int) : List Int := (List.range 8).map fun j => (at0 st j + at0 (rounds32 (sched32 zs 48) (eight32 st) 64).list j) % 4294967296
set_option maxHeartbeats 4000000 in
theorem take32_v (w : World) (B : Nat) (st : List Int) (hr : RS32 w B st) (hT : TabS w) (hs : 0 ≠ B) (hc : 3 ≠ B) (v : Value) (zs : List Int) (hv : RdI .u8 w v zs) (hb : Bytes zs) (hl : zs.length = 64) :
    Calls Tryd.prog 38 #[.pointer (some ⟨B, 0, none⟩), v] w fun e w' => (∃ v, e = .returned v) ∧ RS32 w' B (take32 st zs) ∧ w.grownBy w' (some B) := by
  have hB := hr.lt
  have hml := sched32_len zs 48
  have hmi := sched32_in hb hl 48
  have HS := fun W (h : RS32 W B st) (hv : RdI .u8 W v zs) => schedule32_v W B st h v zs hv hb hl
  have htk : take32 st zs = (List.range 8).map fun j => (at0 st j + at0 (rounds32 (sched32 zs 48) (eight32 st) 64).list j) % 4294967296 := rfl
  generalize sched32 zs 48 = ms at *
  have h8 : (eight32 st).ok := ⟨hr.stIn 0, hr.stIn 1, hr.stIn 2, hr.stIn 3, hr.stIn 4, hr.stIn 5, hr.stIn 6, hr.stIn 7⟩
  have he8 : eight32 st = ⟨at0 st 0, at0 st 1, at0 st 2, at0 st 3, at0 st 4, at0 st 5, at0 st 6, at0 st 7⟩ := rfl
  go_enter Tryd.func38, Tryd.ntmps38
  go_wp2_with (first
    | (go_at_call 45; (with_reducible refine (HS _ hr hv).mono ?_); rintro e w1 ⟨rfl, b1⟩)
    | (with_reducible refine at_n 4 ?_; refine wpList_allocI rfl 64 rfl .u32 80 zero_t32 ?_; intro w2 A2 s2 b2; have BB := below_then b1 b2; have hr2 := hr.below BB; have hT2 := hT.below BB)
    | (with_reducible refine at_op (o := ⟨_, .store 64 _ _, _, _, _, _⟩) ?_; refine wpList_storeI rfl 64 _ _ rfl 80 info_t32 w1.heap.size rfl .u32 _ _ rfl A2 (by simp) hml ?_; intro A3))
  have hs1 := b1.size
  have hr3 : RS32 (w2.setRow w1.heap.size (ms.map (Value.int .u32)).toArray) B st := hr2.but (grown_row _ _ _) (by simp; omega)
  have hT3 : TabS (w2.setRow w1.heap.size (ms.map (Value.int .u32)).toArray) := hT2.but (grown_row _ _ _) (by have := hT.lt.1; have := b1.size; omega) (by have := hT.lt.2; have := b1.size; omega)
  have BB3 := below_row BB (g := w1.heap.size) b1.size (ms.map (Value.int .u32)).toArray
  generalize w2.setRow w1.heap.size (ms.map (Value.int .u32)).toArray = w3 at *
  clear hr2 hT2 A2 BB HS
  have s0 : w3.cell? ⟨B, 2, none⟩ = some (.int .u32 (at0 st 0)) := (hr3.stAt (j := 0) (by decide)).1
  have s1 : w3.cell? ⟨B, 3, none⟩ = some (.int .u32 (at0 st 1)) := (hr3.stAt (j := 1) (by decide)).1
  have s2 : w3.cell? ⟨B, 4, none⟩ = some (.int .u32 (at0 st 2)) := (hr3.stAt (j := 2) (by decide)).1
  have s3 : w3.cell? ⟨B, 5, none⟩ = some (.int .u32 (at0 st 3)) := (hr3.stAt (j := 3) (by decide)).1
  have s4 : w3.cell? ⟨B, 6, none⟩ = some (.int .u32 (at0 st 4)) := (hr3.stAt (j := 4) (by decide)).1
  have s5 : w3.cell? ⟨B, 7, none⟩ = some (.int .u32 (at0 st 5)) := (hr3.stAt (j := 5) (by decide)).1
  have s6 : w3.cell? ⟨B, 8, none⟩ = some (.int .u32 (at0 st 6)) := (hr3.stAt (j := 6) (by decide)).1
  have s7 : w3.cell? ⟨B, 9, none⟩ = some (.int .u32 (at0 st 7)) := (hr3.stAt (j := 7) (by decide)).1
  have hct := hr3.count
  have hml' := hml
  go_quiet (fail)
  go_wp2
  go_quiet (fail)
  go_wp2
  have he : rounds32 ms (eight32 st) 0 = eight32 st := rfl
  generalize hv0 : eight32 st = v0 at *
  go_loopw [5, 6, 7, 8, 9, 10, 11, 12, 65] (fun a b c d e f g h i wr => ∃ (k : Nat), k ≤ 64 ∧ i = .int .i64 k ∧ a = .int .u32 (rounds32 ms v0 k).a ∧ b = .int .u32 (rounds32 ms v0 k).b ∧ c = .int .u32 (rounds32 ms v0 k).c ∧ d = .int .u32 (rounds32 ms v0 k).d ∧ e = .int .u32 (rounds32 ms v0 k).e ∧ f = .int .u32 (rounds32 ms v0 k).f ∧ g = .int .u32 (rounds32 ms v0 k).g ∧ h = .int .u32 (rounds32 ms v0 k).h ∧ RS32 wr B st ∧ TabS wr ∧ Arr .u32 wr w1.heap.size ms ∧ Below w.heap.size w wr) (fun _ _ _ _ _ _ _ _ i _ => 64 - (intOf i).toNat)
  case atStart =>
    refine ⟨0, by omega, rfl, ?_, ?_, ?_, ?_, ?_, ?_, ?_, ?_, hr3, hT3.drewN _, A3, below_drewN BB3 _⟩ <;> (rw [he, he8])
  case round =>
    clear hr3 hT3 A3 BB3 s0 s1 s2 s3 s4 s5 s6 s7 hct
    obtain ⟨k, hk, rfl, rfl, rfl, rfl, rfl, rfl, rfl, rfl, rfl, hr3, hT3, A3, BB3⟩ := hrel
    by_cases hlt : k < 64
    · have hok := rounds32_ok (m := ms) h8 k
      have hnx : rounds32 ms v0 (k + 1) = round32 ms k (rounds32 ms v0 k) := rfl
      rcases hv : rounds32 ms v0 k with ⟨a, b, c, d, e, f, g, h⟩
      rw [hv] at hok hnx
      obtain ⟨⟨a0, a1⟩, ⟨b0, b1'⟩, ⟨c0, c1⟩, ⟨d0, d1⟩, ⟨e0, e1⟩, ⟨f0, f1⟩, ⟨g0, g1⟩, ⟨h0, h1⟩⟩ := hok
      dsimp only at a0 a1 b0 b1' c0 c1 d0 d1 e0 e1 f0 f1 g0 g1 h0 h1
      have hcu := hT3.cu k (by omega)
      have hci := cubes_in k (by omega)
      have HC := fun W (h : RS32 W B st) => cut32_v (at0 cubesL k) W B st h hci
      have HB := fun W => bigB32_v e W ⟨e0, e1⟩
      have HA := fun W => bigA32_v a W ⟨a0, a1⟩
      have hms := A3.cell (k := k) (by omega)
      obtain ⟨f10, f11, f12, f13⟩ := hr3.fn
      have hk80 : (k : Int) < 80 := by omega
      replace hnx := Lib.hid hnx
      clear hv hmi htk he
      go_wp2
      go_quiet (first | (go_at_call 20; exact Calls.quiet_of_same (HB _)) | (go_at_call 37; exact Calls.quiet_of_same (HC _ hr3)))
      go_wp2_with (first
        | (go_at_call 18; (with_reducible refine (HA _).mono ?_); rintro e w9 ⟨rfl, rfl⟩))
      refine ⟨⟨k + 1, by omega, by go_num, ?_, congrArg (Value.int .u32) (congrArg Eight32.b hnx.out).symm, congrArg (Value.int .u32) (congrArg Eight32.c hnx.out).symm, congrArg (Value.int .u32) (congrArg Eight32.d hnx.out).symm, ?_, congrArg (Value.int .u32) (congrArg Eight32.f hnx.out).symm, congrArg (Value.int .u32) (congrArg Eight32.g hnx.out).symm, congrArg (Value.int .u32) (congrArg Eight32.h hnx.out).symm, hr3, hT3.drewN _, A3, below_drewN BB3 _⟩, by simp only [intOf]; omega⟩ <;> rw [hnx.out]
      · show _ = Value.int .u32 ((tt32 ms k ⟨a, b, c, d, e, f, g, h⟩ + uu32 ⟨a, b, c, d, e, f, g, h⟩) % 4294967296)
        unfold tt32 uu32 not32
        first | rfl | (simp only [IntKind.wrap_u64, Int.emod_add_emod, Int.add_emod_emod])
      · show _ = Value.int .u32 ((d + tt32 ms k ⟨a, b, c, d, e, f, g, h⟩) % 4294967296)
        unfold tt32 not32
        first | rfl | (simp only [IntKind.wrap_u64, Int.emod_add_emod, Int.add_emod_emod])
    · obtain rfl : k = 64 := by omega
      have hok := rounds32_ok (m := ms) h8 64
      rcases hv : rounds32 ms v0 64 with ⟨a, b, c, d, e, f, g, h⟩
      rw [hv] at hok htk
      obtain ⟨⟨a0, a1⟩, ⟨b0, b1'⟩, ⟨c0, c1⟩, ⟨d0, d1⟩, ⟨e0, e1⟩, ⟨f0, f1⟩, ⟨g0, g1⟩, ⟨h0, h1⟩⟩ := hok
      dsimp only at a0 a1 b0 b1' c0 c1 d0 d1 e0 e1 f0 f1 g0 g1 h0 h1
      have hg := grown_below BB3 B
      replace htk := Lib.hid htk
      clear hv hmi he
      go_wp2
      rw [show Value.agg #[.int .u32 a, .int .u32 b, .int .u32 c, .int .u32 d, .int .u32 e, .int .u32 f, .int .u32 g, .int .u32 h] = aggI .u32 [a, b, c, d, e, f, g, h] from rfl]
      have hls : ([a, b, c, d, e, f, g, h] : List Int).length = 8 := rfl
      have hlv : (Eight32.list ⟨a, b, c, d, e, f, g, h⟩) = [a, b, c, d, e, f, g, h] := rfl
      replace hlv := Lib.hid hlv
      generalize ([a, b, c, d, e, f, g, h] : List Int) = ls at *
      clear a0 a1 b0 b1' c0 c1 d0 d1 e0 e1 f0 f1 g0 g1 h0 h1 BB3 A3 hT3
      go_loopw [135] (fun i wr => ∃ (j : Nat) (su : List Int), j ≤ 8 ∧ i = .int .i64 j ∧ RS32 wr B su ∧ w.grownBy wr (some B) ∧ (∀ q, q < 8 → at0 su q = if q < j then (at0 st q + at0 ls q) % 4294967296 else at0 st q)) (fun i _ => 8 - (intOf i).toNat)
      case atStart => exact ⟨0, st, by omega, rfl, hr3, hg, fun q hq => by rw [if_neg (by omega)]⟩
      case round =>
        clear hr3 hg
        obtain ⟨j, su, hj, rfl, hr3, hg, hsu⟩ := hrel
        by_cases hjl : j < 8
        · have hix : ∀ w, (Instr.index 43 (aggI .u32 ls) (.int .i64 (j : Int))).run Tryd.prog w = .ok (.int .u32 (at0 ls j)) w := fun w => by
            have h := run_indexI (w := w) (P := Tryd.prog) 43 8 39 Tryd.underlying43 _ Tryd.underlying39 rfl (by kernel_rfl) .u32 ls hls (j : Int) (by omega) (by omega)
            rwa [Int.toNat_natCast] at h
          obtain ⟨cj, fj⟩ := hr3.stAt hjl
          have hsj := hsu j hjl
          rw [if_neg (by omega)] at hsj
          rw [hsj] at cj
          have hjI : (j : Int) < 8 := by omega
          replace hsj := Lib.hid hsj
          replace hsu := Lib.hid hsu
          go_wp2
          go_still_tail 11, (by kernel_rfl)
          change wpList _ _ _ _ _ wr.drew
          go_wp2
          refine ⟨?_, ?_⟩
          · apply Exists.intro (α := Value)
            apply Exists.intro (α := Value)
            refine Exists.intro (Value.int .i64 ((j : Int) + 1)) ?_
            repeat apply Exists.intro (α := Value)
            refine ⟨⟨j + 1, su.set j ((at0 st j + at0 ls j) % 4294967296), by omega, by go_num, ?_, ?_, fun q hq => ?_⟩, rfl⟩
            · try simp only [IntKind.wrap_u64]
              have h := hr3.set hjl (mod_in32 (at0 st j + at0 ls j))
              exact h
            · exact grown_drew (grown_set hg _ _)
            · rw [at0_set su j q _ (by rw [hr3.1]; exact hjl)]
              by_cases e : q = j
              · rw [if_pos e, if_pos (by omega), e]
              · rw [if_neg e, hsu.out q hq]
                by_cases e2 : q < j
                · rw [if_pos e2, if_pos (by omega)]
                · rw [if_neg e2, if_neg (by omega)]
          · show 8 - (intOf (Value.int .i64 ((j : Int) + 1))).toNat < 8 - (intOf (Value.int .i64 (j : Int))).toNat
            simp only [intOf]; omega
        · obtain rfl : j = 8 := by omega
          have e : su = take32 st zs := eq_of_all (by rw [hr3.1, htk.out]; simp) fun q hq => by
            rw [hr3.1] at hq
            rw [hsu q hq, if_pos hq, htk.out, hlv.out]
            simp [at0, hq]
          subst e
          go_wp2
          refine bodyPost_end (results_none rfl _ _ _) rfl ?_
          exact ⟨⟨_, rfl⟩, hr3, hg⟩
end Go.Proofs.YtohnicmacmkapaaDoor
namespace Go.Proofs.YtohnicmacmkapaaDoor
open Go.RowKit
set_option linter.unusedVariables false
set_option maxRecDepth 8000

theorem blockSize_v (n : Int) (w : World) (h : n = 32 ∨ n = 64) : Calls Tryd.prog 35 #[.int .i64 n] w fun e w' => e = .returned (.int .i64 (2 * n)) ∧ w' = w := by
  rcases h with rfl | rfl
  all_goals
    go_enter Tryd.func35, Tryd.ntmps35
    go_wp2
    go_ret
    exact ⟨rfl, rfl⟩
theorem lengthSize_v (n : Int) (w : World) (h : n = 32 ∨ n = 64) : Calls Tryd.prog 36 #[.int .i64 n] w fun e w' => e = .returned (.int .i64 (n / 4)) ∧ w' = w := by
  rcases h with rfl | rfl
  all_goals
    go_enter Tryd.func36, Tryd.ntmps36
    go_wp2
    go_ret
    exact ⟨rfl, rfl⟩
/-- How many bytes there are with what is padded. -/
def padded (n wd : Int) : Int := if n < 0 ∨ 1099511627776 < n ∨ (wd ≠ 32 ∧ wd ≠ 64) then 0 else (n + 1 + wd / 4 + 2 * wd - 1) / (2 * wd) * (2 * wd)
theorem padded_v (n wd : Int) (w : World) (hn : -9223372036854775808 ≤ n ∧ n ≤ 9223372036854775807) (hw : -9223372036854775808 ≤ wd ∧ wd ≤ 9223372036854775807) :
    Calls Tryd.prog 14 #[.int .i64 n, .int .i64 wd] w fun e w' => e = .returned (.int .i64 (padded n wd)) ∧ w' = w := by
  by_cases h : n < 0 ∨ 1099511627776 < n ∨ (wd ≠ 32 ∧ wd ≠ 64)
  · rw [show padded n wd = 0 from if_pos h]
    have hb : (decide (n < 0) || (decide (1099511627776 < n) || (decide (wd ≠ 32) && decide (wd ≠ 64)))) = true := by simpa using h
    by_cases h1 : n < 0
    · have d1 : decide (n < 0) = true := decide_eq_true h1
      go_enter Tryd.func14, Tryd.ntmps14
      go_wp2
      go_ret
      exact ⟨rfl, rfl⟩
    · by_cases h2 : 1099511627776 < n
      · go_enter Tryd.func14, Tryd.ntmps14
        go_wp2
        go_ret
        exact ⟨rfl, rfl⟩
      · have h3 : wd ≠ 32 ∧ wd ≠ 64 := by omega
        obtain ⟨h4, h5⟩ := h3
        have b4 : (wd != 32) = true := by simpa using h4
        have b5 : (wd != 64) = true := by simpa using h5
        clear hb h h4 h5
        go_enter Tryd.func14, Tryd.ntmps14
        go_wp2
        go_ret
        exact ⟨rfl, rfl⟩
  · have h6 : wd = 32 ∨ wd = 64 := by omega
    have h7 : ¬ n < 0 := by omega
    have h8 : ¬ 1099511627776 < n := by omega
    rw [show padded n wd = (n + 1 + wd / 4 + 2 * wd - 1) / (2 * wd) * (2 * wd) from if_neg h]
    clear h
    have HB := fun W => blockSize_v wd W h6
    have HL := fun W => lengthSize_v wd W h6
    rcases h6 with rfl | rfl
    all_goals
      go_enter Tryd.func14, Tryd.ntmps14
      go_wp2_with (first
        | (go_at_call 35; (with_reducible refine (HB _).mono ?_); rintro e w1 ⟨rfl, rfl⟩)
        | (go_at_call 36; (with_reducible refine (HL _).mono ?_); rintro e w1 ⟨rfl, rfl⟩))
      go_ret
      exact ⟨rfl, rfl⟩
/-- The bytes of a state. -/
def tell64 (st : List Int) : List Int := (List.range 64).map fun i => at0 st (i / 8) / 2 ^ (8 * (8 - 1 - i % 8)) % 256
theorem tell64_at (st : List Int) (i : Nat) (h : i < 64) : at0 (tell64 st) i = at0 st (i / 8) / 2 ^ (8 * (8 - 1 - i % 8)) % 256 := by simp [tell64, at0, h]
set_option maxHeartbeats 1000000 in
theorem tell64_v (w : World) (B Bs : Nat) (st zs : List Int) (hr : RS64 w B st) (hz : Arr .u8 w Bs zs) (hl : zs.length = 64) (hne : B ≠ Bs) :
    Calls Tryd.prog 34 #[.pointer (some ⟨B, 0, none⟩), .slice (some ⟨Bs, 0, none⟩) 64 64] w fun e w' => (∃ v, e = .returned v) ∧ Arr .u8 w' Bs (tell64 st) ∧ w.grownBy w' (some Bs) := by
  have hwd := hr.width
  go_enter Tryd.func34, Tryd.ntmps34
  go_wp2
  go_loopw [13] (fun i wr => ∃ (k : Nat) (ys : List Int), k ≤ 64 ∧ i = .int .i64 k ∧ RS64 wr B st ∧ Arr .u8 wr Bs ys ∧ ys.length = 64 ∧ w.grownBy wr (some Bs) ∧ ∀ q, q < k → at0 ys q = at0 (tell64 st) q) (fun i _ => 64 - (intOf i).toNat)
  case atStart => exact ⟨0, zs, by omega, rfl, hr, hz, hl, World.grownBy.refl _ _, fun q h => by omega⟩
  case round =>
    clear hr hz hwd
    obtain ⟨k, ys, hk, rfl, hr, hz, hyl, hg, hys⟩ := hrel
    by_cases hlt : k < 64
    · have hk8 : k / 8 < 8 := by omega
      obtain ⟨cj, -⟩ := hr.stAt hk8
      have hsi := hr.stIn (k / 8)
      have cs := hz.cell (k := k) (by omega)
      have fs := hz.free (k := k) (by omega)
      have hat := tell64_at st k hlt
      generalize at0 st (k / 8) = s at *
      obtain ⟨s0, s1⟩ := hsi
      obtain ⟨q, e1, hq⟩ : ∃ q : Nat, IntKind.i64.wrap ((k : Int) / 8) = (q : Int) ∧ q = k / 8 := ⟨k / 8, by rw [wrap_id64 (by omega) (by omega)]; omega, rfl⟩
      obtain ⟨r, e2, hr2⟩ : ∃ r : Nat, (k : Int).tmod 8 = (r : Int) ∧ r = k % 8 := ⟨k % 8, by rw [Int.tmod_eq_emod_of_nonneg (by omega)]; omega, rfl⟩
      have e5 : IntKind.i64.wrap 7 = 7 := by decide
      obtain ⟨t, e3, ht⟩ : ∃ t : Nat, IntKind.i64.wrap ((7 : Int) - (r : Int)) = (t : Int) ∧ t = 7 - r := ⟨7 - r, by rw [wrap_id64 (by omega) (by omega)]; omega, rfl⟩
      obtain ⟨u, e4, hu⟩ : ∃ u : Nat, IntKind.i64.wrap ((8 : Int) * (t : Int)) = (u : Int) ∧ u = 8 * t := ⟨8 * t, by rw [wrap_id64 (by omega) (by omega)]; omega, rfl⟩
      have hu2 : 8 * (8 - 1 - k % 8) = u := by omega
      rw [hu2] at hat
      have hu3 : (u : Int) < 64 := by omega
      have hq8 : (q : Int) < 8 := by omega
      rw [← hq] at cj
      clear hu2 hq hr2 ht hu hk8
      replace hat := Lib.hid hat
      replace hys := Lib.hid hys
      go_wp2
      go_still_tail 20, (by kernel_rfl)
      change wpList _ _ _ _ _ wr.drew
      go_wp2
      refine ⟨⟨k + 1, ys.set k (s / 2 ^ u % 256), by omega, by go_num, hr.but (grown_drew (grown_set (World.grownBy.refl wr (some Bs)) k _)) (by simpa using hne), arr_drew (hz.set k _), by simp [hyl], grown_drew (grown_set hg _ _), fun q hq => ?_⟩, by simp only [intOf]; omega⟩
      rw [at0_set ys k q _ (by omega)]
      by_cases e : q = k
      · rw [if_pos e, e, hat.out]
      · rw [if_neg e]; exact hys.out q (by omega)
    · obtain rfl : k = 64 := by omega
      have e : ys = tell64 st := eq_of_all (by rw [hyl]; simp [tell64]) fun q h => hys q (by rw [hyl] at h; exact h)
      subst e
      go_wp2
      refine bodyPost_end (results_none rfl _ _ _) rfl ?_
      exact ⟨⟨_, rfl⟩, hz, hg⟩
/-- The bytes of a state. -/
def tell32 (st : List Int) : List Int := (List.range 32).map fun i => at0 st (i / 4) / 2 ^ (8 * (4 - 1 - i % 4)) % 256
theorem tell32_at (st : List Int) (i : Nat) (h : i < 32) : at0 (tell32 st) i = at0 st (i / 4) / 2 ^ (8 * (4 - 1 - i % 4)) % 256 := by simp [tell32, at0, h]
set_option maxHeartbeats 1000000 in
theorem tell32_v (w : World) (B Bs : Nat) (st zs : List Int) (hr : RS32 w B st) (hz : Arr .u8 w Bs zs) (hl : zs.length = 32) (hne : B ≠ Bs) :
    Calls Tryd.prog 25 #[.pointer (some ⟨B, 0, none⟩), .slice (some ⟨Bs, 0, none⟩) 32 32] w fun e w' => (∃ v, e = .returned v) ∧ Arr .u8 w' Bs (tell32 st) ∧ w.grownBy w' (some Bs) := by
  have hwd := hr.width
  go_enter Tryd.func25, Tryd.ntmps25
  go_wp2
  go_loopw [13] (fun i wr => ∃ (k : Nat) (ys : List Int), k ≤ 32 ∧ i = .int .i64 k ∧ RS32 wr B st ∧ Arr .u8 wr Bs ys ∧ ys.length = 32 ∧ w.grownBy wr (some Bs) ∧ ∀ q, q < k → at0 ys q = at0 (tell32 st) q) (fun i _ => 32 - (intOf i).toNat)
  case atStart => exact ⟨0, zs, by omega, rfl, hr, hz, hl, World.grownBy.refl _ _, fun q h => by omega⟩
  case round =>
    clear hr hz hwd
    obtain ⟨k, ys, hk, rfl, hr, hz, hyl, hg, hys⟩ := hrel
    by_cases hlt : k < 32
    · have hk8 : k / 4 < 8 := by omega
      obtain ⟨cj, -⟩ := hr.stAt hk8
      have hsi := hr.stIn (k / 4)
      have cs := hz.cell (k := k) (by omega)
      have fs := hz.free (k := k) (by omega)
      have hat := tell32_at st k hlt
      generalize at0 st (k / 4) = s at *
      obtain ⟨s0, s1⟩ := hsi
      obtain ⟨q, e1, hq⟩ : ∃ q : Nat, IntKind.i64.wrap ((k : Int) / 4) = (q : Int) ∧ q = k / 4 := ⟨k / 4, by rw [wrap_id64 (by omega) (by omega)]; omega, rfl⟩
      obtain ⟨r, e2, hr2⟩ : ∃ r : Nat, (k : Int).tmod 4 = (r : Int) ∧ r = k % 4 := ⟨k % 4, by rw [Int.tmod_eq_emod_of_nonneg (by omega)]; omega, rfl⟩
      have e5 : IntKind.i64.wrap 3 = 3 := by decide
      obtain ⟨t, e3, ht⟩ : ∃ t : Nat, IntKind.i64.wrap ((3 : Int) - (r : Int)) = (t : Int) ∧ t = 3 - r := ⟨3 - r, by rw [wrap_id64 (by omega) (by omega)]; omega, rfl⟩
      obtain ⟨u, e4, hu⟩ : ∃ u : Nat, IntKind.i64.wrap ((8 : Int) * (t : Int)) = (u : Int) ∧ u = 8 * t := ⟨8 * t, by rw [wrap_id64 (by omega) (by omega)]; omega, rfl⟩
      have hu2 : 8 * (4 - 1 - k % 4) = u := by omega
      rw [hu2] at hat
      have hu3 : (u : Int) < 32 := by omega
      have hq8 : (q : Int) < 8 := by omega
      rw [← hq] at cj
      clear hu2 hq hr2 ht hu hk8
      replace hat := Lib.hid hat
      replace hys := Lib.hid hys
      go_wp2
      go_still_tail 20, (by kernel_rfl)
      change wpList _ _ _ _ _ wr.drew
      go_wp2
      refine ⟨⟨k + 1, ys.set k (s / 2 ^ u % 256), by omega, by go_num, hr.but (grown_drew (grown_set (World.grownBy.refl wr (some Bs)) k _)) (by simpa using hne), arr_drew (hz.set k _), by simp [hyl], grown_drew (grown_set hg _ _), fun q hq => ?_⟩, by simp only [intOf]; omega⟩
      rw [at0_set ys k q _ (by omega)]
      by_cases e : q = k
      · rw [if_pos e, e, hat.out]
      · rw [if_neg e]; exact hys.out q (by omega)
    · obtain rfl : k = 32 := by omega
      have e : ys = tell32 st := eq_of_all (by rw [hyl]; simp [tell32]) fun q h => hys q (by rw [hyl] at h; exact h)
      subst e
      go_wp2
      refine bodyPost_end (results_none rfl _ _ _) rfl ?_
      exact ⟨⟨_, rfl⟩, hz, hg⟩
end Go.Proofs.YtohnicmacmkapaaDoor
namespace Go.Proofs.YtohnicmacmkapaaDoor
open Go.RowKit
set_option linter.unusedVariables false

/-- Which operations an operation waits for. -/
def depsOf (md : Region.Mode) (o : Oper) : List Nat := (o.after.toList.filter (Region.binds md)).map (·.on)
def depsAt (md : Region.Mode) (ops : Array Oper) (i : Nat) : List Nat := ((ops[i]?).map (depsOf md)).getD []
def dstAt (ops : Array Oper) (i : Nat) : Option Tmp := (ops[i]?).bind (·.dst)
/-- What was yielded by some operations alone. -/
def restr (f : Nat → Value) (l : List Nat) (k : Nat) : Value := if l.contains k then f k else undef
def upd {α : Type} (f : Nat → α) (i : Nat) (v : α) (k : Nat) : α := if k = i then v else f k
/-- The act, with what these operations have yielded. -/
def putDeps (ops : Array Oper) (f : Nat → Value) : List Nat → Act → Act
  | [], a => a
  | j :: l, a => putDeps ops f l (a.put (dstAt ops j) (f j))
/-- No two operations write one slot; an operation looks at a slot that another one writes just if it waits for it, or the other way round. -/
def ordB (md : Region.Mode) (ops : Array Oper) : Bool :=
  (List.range ops.size).all fun i => match ops[i]? with
    | none => true
    | some o => (match o.op with | .select .. => false | _ => true) && (depsOf md o).all (fun j => decide (j < i)) &&
      (List.range ops.size).all fun j => match dstAt ops j with
        | none => true
        | some t => (j == i || dstAt ops i != some t) && (!(o.looksAt ops).contains t || j == i || (depsOf md o).contains j || (depsAt md ops j).contains i) && !((depsOf md o).contains j && (depsAt md ops j).contains i)

/-- An act that is another one with what some operations have yielded. -/
structure Agrees (ops : Array Oper) (L : Nat → Prop) (f : Nat → Value) (a a' : Act) : Prop where
  defers : a'.defers = a.defers
  size : a'.tmps.size = a.tmps.size
  put : ∀ j t, L j → dstAt ops j = some t → t < a.tmps.size → a'.tmps[t]? = some (f j)
  same : ∀ t, (∀ j, L j → dstAt ops j ≠ some t) → a'.tmps[t]? = a.tmps[t]?

theorem Agrees.start {ops : Array Oper} {f : Nat → Value} {a : Act} {L : Nat → Prop} (h : ∀ j, ¬ L j) : Agrees ops L f a a :=
  ⟨rfl, rfl, fun j t hj => absurd hj (h j), fun t _ => rfl⟩
theorem put_size (a : Act) (d : Option Tmp) (v : Value) : (a.put d v).tmps.size = a.tmps.size := by cases d <;> simp [Act.put]
theorem put_defers (a : Act) (d : Option Tmp) (v : Value) : (a.put d v).defers = a.defers := by cases d <;> rfl
theorem put_get (a : Act) (d : Option Tmp) (v : Value) (t : Nat) : (a.put d v).tmps[t]? = if d = some t ∧ t < a.tmps.size then some v else a.tmps[t]? := by
  cases d with
  | none => simp [Act.put]
  | some d =>
    simp only [Act.put, Option.some.injEq]
    by_cases h : d = t
    · subst h
      by_cases hs : d < a.tmps.size
      · simp [hs]
      · simp [hs]
    · simp [h, Array.getElem?_setIfInBounds_ne h]

/-- No two of these write one slot. -/
def Own (ops : Array Oper) : Prop := ∀ i j t, dstAt ops i = some t → dstAt ops j = some t → i = j
theorem Agrees.step {ops : Array Oper} (ho : Own ops) {L L' : Nat → Prop} {f f' : Nat → Value} {a a' : Act} (h : Agrees ops L f a a') (i : Nat) (v : Value)
    (hL : ∀ j, L' j ↔ (j = i ∨ L j)) (hf : ∀ j, j ≠ i → L j → f' j = f j) (hi : f' i = v) : Agrees ops L' f' a (a'.put (dstAt ops i) v) := by
  refine ⟨by rw [put_defers]; exact h.defers, by rw [put_size]; exact h.size, fun j t hj hd ht => ?_, fun t hn => ?_⟩
  · rw [put_get]
    by_cases e : dstAt ops i = some t
    · have hij := ho i j t e hd
      subst hij
      rw [if_pos ⟨e, by rw [h.size]; exact ht⟩, hi]
    · rw [if_neg (fun x => e x.1)]
      have hji : j ≠ i := fun e2 => e (e2 ▸ hd)
      have hLj := ((hL j).1 hj).resolve_left hji
      rw [h.put j t hLj hd ht, hf j hji hLj]
  · rw [put_get, if_neg (fun x => hn i ((hL i).2 (.inl rfl)) x.1)]
    exact h.same t fun j hj => hn j ((hL j).2 (.inr hj))
theorem Agrees.congr {ops : Array Oper} {L L' : Nat → Prop} {f f' : Nat → Value} {a a' : Act} (h : Agrees ops L f a a') (hL : ∀ j, L j ↔ L' j) (hf : ∀ j, L j → f j = f' j) : Agrees ops L' f' a a' :=
  ⟨h.defers, h.size, fun j t hj hd ht => by rw [← hf j ((hL j).2 hj)]; exact h.put j t ((hL j).2 hj) hd ht, fun t hn => h.same t fun j hj => hn j ((hL j).1 hj)⟩
theorem Agrees.puts {ops : Array Oper} (ho : Own ops) {f : Nat → Value} {a : Act} : ∀ (l : List Nat) {L : Nat → Prop} {a' : Act}, Agrees ops L f a a' → Agrees ops (fun j => j ∈ l ∨ L j) f a (putDeps ops f l a')
  | [], L, a', h => h.congr (by simp) (fun _ _ => rfl)
  | i :: l, L, a', h => by
    have h1 := h.step ho (L' := fun j => j = i ∨ L j) (f' := f) i (f i) (fun j => Iff.rfl) (fun _ _ _ => rfl) rfl
    have h2 := Agrees.puts ho l h1
    exact h2.congr (fun j => by simp only [List.mem_cons]; exact ⟨fun h => h.elim (fun h => .inl (.inr h)) (fun h => h.elim (fun h => .inl (.inl h)) .inr), fun h => h.elim (fun h => h.elim (fun h => .inr (.inl h)) .inl) (fun h => .inr (.inr h))⟩) (fun _ _ => rfl)
theorem Agrees.of {ops : Array Oper} (ho : Own ops) (f : Nat → Value) (a : Act) (l : List Nat) : Agrees ops (· ∈ l) f a (putDeps ops f l a) :=
  (Agrees.puts ho l (Agrees.start (L := fun _ => False) (fun _ h => h))).congr (by simp) (fun _ _ => rfl)
theorem Agrees.unique {ops : Array Oper} {L : Nat → Prop} {f : Nat → Value} {a a' a'' : Act} (h : Agrees ops L f a a') (k : Agrees ops L f a a'') : a' = a'' := by
  have ht : a'.tmps = a''.tmps := by
    apply Array.ext_getElem?
    intro t
    by_cases ht : t < a.tmps.size
    · by_cases e : ∃ j, L j ∧ dstAt ops j = some t
      · obtain ⟨j, hj, hd⟩ := e
        rw [h.put j t hj hd ht, k.put j t hj hd ht]
      · have hn : ∀ j, L j → dstAt ops j ≠ some t := fun j hj hd => e ⟨j, hj, hd⟩
        rw [h.same t hn, k.same t hn]
    · rw [Array.getElem?_eq_none (by rw [h.size]; omega), Array.getElem?_eq_none (by rw [k.size]; omega)]
  have hd : a'.defers = a''.defers := by rw [h.defers, k.defers]
  cases a'; cases a''
  simp only at ht hd
  rw [ht, hd]

theorem eval_slots {a a' : Act} {x : Operand} (h : ∀ t, x = .tmp t → a'.tmps[t]? = a.tmps[t]?) : a'.eval x = a.eval x := by
  cases x with
  | tmp t => have := h t rfl; simp [Act.eval, Array.getD_eq_getD_getElem?, this]
  | _ => rfl
theorem wanted_slots {ops : Array Oper} {o : Oper} {a a' : Act} (h : ∀ t, t ∈ o.looksAt ops → a'.tmps[t]? = a.tmps[t]?) : Region.wanted o (yielded ops a'.tmps) = Region.wanted o (yielded ops a.tmps) := by
  unfold Region.wanted
  cases hg : o.guard with
  | none => rfl
  | some gw =>
    obtain ⟨g, want⟩ := gw
    have hy : yielded ops a'.tmps g = yielded ops a.tmps g := by
      unfold yielded
      cases ht : (ops[g]?).bind (·.dst) with
      | none => rfl
      | some t =>
        have := h t (by simp [Oper.looksAt, hg, ht])
        simp [this]
    simp only [hy]
theorem exec_slots {ops : Array Oper} {o : Oper} {a a' : Act} (hs : ∀ cs b, o.op ≠ .select cs b) (h : ∀ t, t ∈ o.looksAt ops → a'.tmps[t]? = a.tmps[t]?) : execOp a'.eval o = execOp a.eval o :=
  execOp_congr o hs fun x hx => eval_slots fun t ht => h t (by subst ht; exact List.mem_append_left _ (List.mem_filterMap.2 ⟨.tmp t, by simpa using hx, rfl⟩))

section
variable {P : Program} {ops : Array Oper} {md : Region.Mode}

/-- What is shown of one operation: from the act with what it waits for. -/
def Does (P : Program) (ops : Array Oper) (o : Oper) (a : Act) (w : World) (R : Value → World → Prop) : Prop :=
  ∀ K : Act → World → Prop, (∀ v w', R v w' → K (a.put o.dst v) w') → if Region.wanted o (yielded ops a.tmps) then Oper.wp P o a w K (fun _ _ _ => False) else K (a.put o.dst undef) w

theorem put_put {a a' : Act} {d : Option Tmp} {u v : Value} (hs : a'.tmps.size = a.tmps.size) (h : a.put d u = a.put d v) : a'.put d u = a'.put d v := by
  cases d with
  | none => rfl
  | some d =>
    by_cases hd : d < a.tmps.size
    · have h1 := congrArg (fun x : Act => x.tmps[d]?) h
      simp only [put_get, hd, and_self, if_true, Option.some.injEq] at h1
      rw [h1]
    · simp only [Act.put]
      rw [Array.setIfInBounds_eq_of_size_le (by rw [hs]; exact Nat.le_of_not_lt hd), Array.setIfInBounds_eq_of_size_le (by rw [hs]; exact Nat.le_of_not_lt hd)]

theorem Does.wpOp {Q : Exit → Act → World → Prop} {i : Nat} {o : Oper} (hi : ops[i]? = some o) (hs : ∀ cs b, o.op ≠ .select cs b) {a a' : Act} {w : World} {R : Value → World → Prop} (hsz : a'.tmps.size = a.tmps.size)
    (hl : ∀ t, t ∈ o.looksAt ops → a'.tmps[t]? = a.tmps[t]?) (h : Does P ops o a w R) {K : Act → World → Prop} (hK : ∀ v w', R v w' → K (a'.put o.dst v) w') : wpOp P ops Q i K a' w := by
  unfold Go.wpOp
  simp only [hi]
  have h := h (fun a1 w1 => ∃ v, a1 = a.put o.dst v ∧ R v w1) (fun v w' hr => ⟨v, rfl, hr⟩)
  rw [wanted_slots hl]
  by_cases hw : Region.wanted o (yielded ops a.tmps) = true
  · rw [if_pos hw] at h ⊢
    refine .inl ?_
    unfold Oper.wp at *
    rw [exec_slots hs hl]
    generalize (execOp a.eval o).run P w = r at *
    cases r with
    | ok n w' =>
      cases n <;> simp only [Oper.upon] at h ⊢
      case value u => obtain ⟨v, he, hr⟩ := h; rw [put_put hsz he]; exact hK v _ hr
      case skip => obtain ⟨v, he, hr⟩ := h; rw [put_put hsz he]; exact hK v _ hr
      case defer d =>
        obtain ⟨v, he, hr⟩ := h
        have h1 := congrArg (fun x : Act => x.defers.length) he
        simp [put_defers] at h1
      case enter f args =>
        refine Calls.mono h fun e w'' he => ?_
        cases e with
        | returned u => obtain ⟨v, he, hr⟩ := he; show K (a'.put o.dst u) w''; rw [put_put hsz he]; exact hK v _ hr
        | panicked c => exact False.elim he
        | outgrown => obtain ⟨_, _, hf⟩ := he; exact False.elim hf
      case row row args => exact Rows.mono h fun u w'' he => by obtain ⟨v, he, hr⟩ := he; rw [put_put hsz he]; exact hK v _ hr
    | halt x w' =>
      cases x <;> simp only [Oper.upon] at h ⊢
  · rw [if_neg hw] at h ⊢
    obtain ⟨v, he, hr⟩ := h
    rw [put_put hsz he]
    exact hK v _ hr

theorem restr_upd {f : Nat → Value} {l : List Nat} {i : Nat} {v : Value} (h : l.contains i = false) : restr (upd f i v) l = restr f l := by
  funext k
  unfold restr upd
  by_cases e : k = i
  · subst e; rw [h]; simp
  · simp [e]

/-- What holds of an operation that has run. -/
abbrev Facts := Nat → (Nat → Value) → World → Prop

theorem ordB_own (h : ordB md ops = true) : Own ops := by
  intro i j t hi hj
  by_cases hij : i = j
  · exact hij
  · exfalso
    have hi' : i < ops.size := by
      rcases Nat.lt_or_ge i ops.size with h | h
      · exact h
      · simp [dstAt, Array.getElem?_eq_none h] at hi
    have hj' : j < ops.size := by
      rcases Nat.lt_or_ge j ops.size with h | h
      · exact h
      · simp [dstAt, Array.getElem?_eq_none h] at hj
    have h1 := List.all_eq_true.1 h i (List.mem_range.2 hi')
    rw [Array.getElem?_eq_getElem hi'] at h1
    simp only [Bool.and_eq_true] at h1
    have h2 := List.all_eq_true.1 h1.2 j (List.mem_range.2 hj')
    rw [hj] at h2
    simp only [Bool.and_eq_true] at h2
    have h3 := h2.1.1
    simp [hi] at h3
    exact hij h3.symm

theorem ordB_deps (h : ordB md ops = true) {i : Nat} {o : Oper} (hi : ops[i]? = some o) : (∀ cs b, o.op ≠ .select cs b) ∧ (∀ j ∈ depsOf md o, j < i) ∧
    ∀ j t, j < ops.size → dstAt ops j = some t → (t ∈ o.looksAt ops → j = i ∨ j ∈ depsOf md o ∨ i ∈ depsAt md ops j) ∧ ¬ (j ∈ depsOf md o ∧ i ∈ depsAt md ops j) := by
  have hi' : i < ops.size := (Array.getElem?_eq_some_iff.1 hi).1
  have h1 := List.all_eq_true.1 h i (List.mem_range.2 hi')
  rw [hi] at h1
  simp only [Bool.and_eq_true] at h1
  refine ⟨fun cs b e => ?_, fun j hj => ?_, fun j t hj hd => ?_⟩
  · have := h1.1.1
    rw [e] at this
    simp at this
  · have := List.all_eq_true.1 h1.1.2 j hj
    simpa using this
  · have h2 := List.all_eq_true.1 h1.2 j (List.mem_range.2 hj)
    rw [hd] at h2
    simp only [Bool.and_eq_true] at h2
    refine ⟨fun ht => ?_, fun hx => ?_⟩
    · have h3 := h2.1.2
      simp only [Bool.or_eq_true, Bool.not_eq_true', List.contains_iff_mem, beq_iff_eq] at h3
      rcases h3 with ((h3 | h3) | h3) | h3
      · rw [← List.contains_iff_mem] at ht; rw [ht] at h3; cases h3
      · exact .inl h3
      · exact .inr (.inl h3)
      · exact .inr (.inr h3)
    · have h3 := h2.2
      simp only [Bool.not_eq_true', Bool.and_eq_false_iff] at h3
      rcases h3 with h3 | h3
      · have := List.contains_iff_mem.2 hx.1; rw [this] at h3; cases h3
      · have := List.contains_iff_mem.2 hx.2; rw [this] at h3; cases h3

theorem all_listed (hb : ordB md ops = true) {listed : Array Bool} (hsz : listed.size = ops.size) (hr : Region.ready md ops listed = []) : ∀ j, j < ops.size → listed.getD j false = true := by
  intro j
  induction j using Nat.strongRecOn with
  | _ j ih =>
    intro hj
    by_cases hl : listed.getD j false = true
    · exact hl
    · exfalso
      have ho : ops[j]? = some ops[j] := Array.getElem?_eq_getElem hj
      have hd := (ordB_deps hb ho).2.1
      have : j ∈ Region.ready md ops listed := by
        refine mem_ready.2 ⟨?_, _, ho, fun e he hbd => ?_⟩
        · rw [Array.getD_eq_getD_getElem?, Array.getElem?_eq_getElem (by omega)] at hl ⊢
          simpa using hl
        · have hm : e.on ∈ depsOf md ops[j] := List.mem_map.2 ⟨e, List.mem_filter.2 ⟨by simpa using he, hbd⟩, rfl⟩
          have := hd _ hm
          exact ih _ this (by omega)
      rw [hr] at this
      cases this

theorem depsAt_eq {i : Nat} {o : Oper} (hi : ops[i]? = some o) : depsAt md ops i = depsOf md o := by simp [depsAt, hi]
theorem depsAt_none {i : Nat} (hi : ops.size ≤ i) : depsAt md ops i = [] := by simp [depsAt, Array.getElem?_eq_none hi]

/-- The law. G holds throughout, said of which operations have run; what is shown of an operation (F) bears what others do to the world (R). -/
theorem wpAny_facts {Q : Exit → Act → World → Prop} (hb : ordB md ops = true) (a : Act) (G : (Nat → Bool) → World → Prop) (F : Facts) (R : Nat → (Nat → Value) → World → World → Prop)
    (hF : ∀ i f w w' j g, R i f w w' → j ≠ i → F j g w → F j g w')
    (hstep : ∀ i o, ops[i]? = some o → ∀ L f w, L i = false → (∀ j, i ∈ depsAt md ops j → L j = false) → G L w → (∀ j ∈ depsOf md o, F j (restr f (j :: depsAt md ops j)) w) →
      Does P ops o (putDeps ops f (depsOf md o) a) w fun v w' => R i (restr f (depsOf md o)) w w' ∧ G (upd L i true) w' ∧ F i (restr (upd f i v) (i :: depsOf md o)) w')
    (hend : ∀ L f w, (∀ j, L j = decide (j < ops.size)) → G L w → (∀ j, j < ops.size → F j (restr f (j :: depsAt md ops j)) w) → Q .normal (putDeps ops f (List.range ops.size) a) w) :
    ∀ (fuel : Nat) (listed : Array Bool) (f : Nat → Value) (a' : Act) (w : World), listed.size = ops.size → (listed.toList.countP (fun b => !b) ≤ fuel) →
      (∀ j, listed.getD j false = true → ∀ k ∈ depsAt md ops j, listed.getD k false = true) →
      Agrees ops (fun j => listed.getD j false = true) f a a' → G (fun j => listed.getD j false) w → (∀ j, listed.getD j false = true → F j (restr f (j :: depsAt md ops j)) w) → wpAny P md ops Q fuel listed a' w := by
  have ho := ordB_own hb
  have fin : ∀ (listed : Array Bool) (f : Nat → Value) (a' : Act) (w : World), listed.size = ops.size → Region.ready md ops listed = [] →
      Agrees ops (fun j => listed.getD j false = true) f a a' → G (fun j => listed.getD j false) w → (∀ j, listed.getD j false = true → F j (restr f (j :: depsAt md ops j)) w) → Q .normal a' w := by
    intro listed f a' w hsz hr hag hg hf
    have hl := all_listed hb hsz hr
    have hout : ∀ j, listed.getD j false = true → j < ops.size := by
      intro j h
      rcases Nat.lt_or_ge j ops.size with h' | h'
      · exact h'
      · simp [Array.getElem?_eq_none (by omega : listed.size ≤ j)] at h
    have e : a' = putDeps ops f (List.range ops.size) a := by
      refine hag.unique ((Agrees.of ho f a (List.range ops.size)).congr (fun j => ?_) (fun _ _ => rfl))
      rw [List.mem_range]
      exact ⟨hl j, hout j⟩
    rw [e]
    refine hend _ f w (fun j => ?_) hg fun j hj => hf j (hl j hj)
    by_cases hj : j < ops.size
    · rw [hl j hj]; simp [hj]
    · have : ¬ listed.getD j false = true := fun h => hj (hout j h)
      rw [Bool.not_eq_true] at this
      rw [this]; simp [hj]
  intro fuel
  induction fuel with
  | zero =>
    intro listed f a' w hsz hc hcl hag hg hf
    have hr : Region.ready md ops listed = [] := by
      rw [List.eq_nil_iff_forall_not_mem]
      intro j hj
      obtain ⟨h0, o, hoj, _⟩ := mem_ready.1 hj
      have hjs : j < ops.size := (Array.getElem?_eq_some_iff.1 hoj).1
      have hc0 : listed.toList.countP (fun b => !b) = 0 := by omega
      rw [List.countP_eq_zero] at hc0
      have h1 := hc0 listed[j] (by simp)
      rw [Array.getD_eq_getD_getElem?, Array.getElem?_eq_getElem (by omega)] at h0
      simp only [Option.getD_some] at h0
      rw [h0] at h1
      exact h1 rfl
    exact ⟨hr, fin listed f a' w hsz hr hag hg hf⟩
  | succ fuel ih =>
    intro listed f a' w hsz hc hcl hag hg hf
    refine ⟨fun hr => fin listed f a' w hsz hr hag hg hf, fun i hi => ?_⟩
    obtain ⟨h0, o, hoi, hdep⟩ := mem_ready.1 hi
    have his : i < ops.size := (Array.getElem?_eq_some_iff.1 hoi).1
    obtain ⟨hsel, hlt, hlook⟩ := ordB_deps hb hoi
    have hdl : ∀ j ∈ depsOf md o, listed.getD j false = true := by
      intro j hj
      obtain ⟨e, he, rfl⟩ := List.mem_map.1 hj
      obtain ⟨he1, he2⟩ := List.mem_filter.1 he
      exact hdep e (by simpa using he1) he2
    have hun : ¬ listed.getD i false = true := by
      intro h
      rw [Array.getD_eq_getD_getElem?, Array.getElem?_eq_getElem (by omega)] at h0 h
      simp only [Option.getD_some] at h0 h
      rw [h0] at h
      cases h
    have hA := Agrees.of ho f a (depsOf md o)
    have hdst : o.dst = dstAt ops i := by simp [dstAt, hoi]
    have hset : ∀ j, (listed.setIfInBounds i true).getD j false = upd (fun j => listed.getD j false) i true j := by
      intro j
      unfold upd
      by_cases e : j = i
      · subst e
        simp [Array.getD_eq_getD_getElem?, hsz, his]
      · rw [getD_set_ne false (fun h => e h.symm), if_neg e]
    refine Does.wpOp hoi hsel (a := putDeps ops f (depsOf md o) a) (by rw [hag.size, hA.size]) (fun t ht => ?_)
      (hstep i o hoi (fun j => listed.getD j false) f w (by simpa using hun) (fun j hj => by
        rw [← Bool.not_eq_true]
        exact fun h => hun (hcl j h i hj)) hg fun j hj => hf j (hdl j hj)) fun v w' hR => ?_
    · by_cases hts : t < a.tmps.size
      · by_cases e : ∃ j, dstAt ops j = some t
        · obtain ⟨j, hd⟩ := e
          have hj' : j < ops.size := by
            rcases Nat.lt_or_ge j ops.size with h | h
            · exact h
            · simp [dstAt, Array.getElem?_eq_none h] at hd
          have hl := hlook j t hj' hd
          by_cases hjd : j ∈ depsOf md o
          · rw [hag.put j t (hdl j hjd) hd hts, hA.put j t hjd hd hts]
          · have hjl : ¬ listed.getD j false = true := by
              intro hjl
              rcases hl.1 ht with h | h | h
              · exact hun (h ▸ hjl)
              · exact hjd h
              · exact hun (hcl j hjl i h)
            rw [hag.same t (fun k hk hkd => hjl (ho k j t hkd hd ▸ hk)), hA.same t (fun k hk hkd => hjd (ho k j t hkd hd ▸ hk))]
        · have hn : ∀ j, dstAt ops j ≠ some t := fun j hj => e ⟨j, hj⟩
          rw [hag.same t (fun j _ => hn j), hA.same t (fun j _ => hn j)]
      · rw [Array.getElem?_eq_none (by rw [hag.size]; exact Nat.le_of_not_lt hts), Array.getElem?_eq_none (by rw [hA.size]; exact Nat.le_of_not_lt hts)]
    · obtain ⟨hR1, hR3, hR2⟩ := hR
      have hset' : ∀ j, (listed.setIfInBounds i true).getD j false = true ↔ (j = i ∨ listed.getD j false = true) := by
        intro j
        rw [hset j]
        unfold upd
        by_cases e : j = i <;> simp [e]
      rw [hdst]
      refine ih (listed.setIfInBounds i true) (upd f i v) _ w' (by simp [hsz]) ?_ ?_ ?_ (by rw [show (fun j => (listed.setIfInBounds i true).getD j false) = upd (fun j => listed.getD j false) i true from funext hset]; exact hR3) ?_
      · have hc2 : (listed.setIfInBounds i true).toList.countP (fun b => !b) + 1 ≤ listed.toList.countP (fun b => !b) := by
          rw [Array.toList_setIfInBounds]
          have hlen : i < listed.toList.length := by simpa [hsz] using his
          have hli : listed.toList[i] = false := by
            rw [Array.getD_eq_getD_getElem?, Array.getElem?_eq_getElem (by omega)] at h0
            simpa using h0
          rw [List.countP_set hlen, hli]
          have : 0 < listed.toList.countP (fun b => !b) := List.countP_pos_iff.2 ⟨false, by rw [← hli]; exact List.getElem_mem _, rfl⟩
          simp only [Bool.not_false, Bool.not_true, if_true, Bool.false_eq_true, if_false]
          omega
        omega
      · intro j hj k hk
        rw [hset'] at hj ⊢
        rcases hj with rfl | hj
        · rw [depsAt_eq hoi] at hk
          exact .inr (hdl k hk)
        · exact .inr (hcl j hj k hk)
      · exact hag.step ho i v hset' (fun j hji _ => by simp [upd, hji]) (by simp [upd])
      · intro j hj
        rw [hset'] at hj
        by_cases e : j = i
        · subst e
          rw [depsAt_eq hoi]
          exact hR2
        · have hjl := hj.resolve_left e
          have hnc : (j :: depsAt md ops j).contains i = false := by
            rw [← Bool.not_eq_true, List.contains_iff_mem, List.mem_cons]
            rintro (h | h)
            · exact e h.symm
            · exact hun (hcl j hjl i h)
          rw [restr_upd hnc]
          exact hF i _ w w' j _ hR1 e (hf j hjl)

/-- The acts, by a list of slots. -/
def putL (ds : List (Option Tmp)) (f : Nat → Value) : List Nat → Act → Act
  | [], a => a
  | j :: l, a => putL ds f l (a.put (ds[j]?.join) (f j))
theorem putL_eq {ds : List (Option Tmp)} (h : ops.toList.map (·.dst) = ds) (f : Nat → Value) : ∀ (l : List Nat) (a : Act), putDeps ops f l a = putL ds f l a
  | [], a => rfl
  | j :: l, a => by
    have e : dstAt ops j = ds[j]?.join := by
      subst h
      simp only [dstAt, List.getElem?_map, Array.getElem?_toList]
      cases ops[j]? <;> rfl
    simp only [putDeps, putL, e, putL_eq h f l]
/-- What holds of those that an operation waits for. -/
def HypL (F : Facts) (dl : List (List Nat)) (f : Nat → Value) (w : World) : List Nat → Prop
  | [] => True
  | j :: l => F j (restr f (j :: (dl[j]?).getD [])) w ∧ HypL F dl f w l
theorem HypL.of {F : Facts} {dl : List (List Nat)} {f : Nat → Value} {w : World} : ∀ (l : List Nat), (∀ j ∈ l, F j (restr f (j :: (dl[j]?).getD [])) w) → HypL F dl f w l
  | [], _ => trivial
  | j :: l, h => ⟨h j (by simp), HypL.of l fun k hk => h k (by simp [hk])⟩
/-- Each operation's own step: s is the one that writes, G of whether it has run. -/
def StepL (P : Program) (ops : Array Oper) (ds : List (Option Tmp)) (dl : List (List Nat)) (s : Nat) (a : Act) (G : Bool → World → Prop) (F : Facts) (S : (Nat → Value) → World → World → Prop) : Nat → List Oper → Prop
  | _, [] => True
  | k, o :: l => (if k = s then ∀ f w, G false w → HypL F dl f w ((dl[k]?).getD []) → Does P ops o (putL ds f ((dl[k]?).getD []) a) w fun v w' => S (restr f ((dl[k]?).getD [])) w w' ∧ G true w' ∧ F k (restr (upd f k v) (k :: (dl[k]?).getD [])) w'
      else ∀ b f w, (((dl[s]?).getD []).contains k = true → b = false) → G b w → HypL F dl f w ((dl[k]?).getD []) → Does P ops o (putL ds f ((dl[k]?).getD []) a) w fun v w' => Below w.heap.size w w' ∧ F k (restr (upd f k v) (k :: (dl[k]?).getD [])) w') ∧ StepL P ops ds dl s a G F S (k + 1) l
theorem StepL.at {ds : List (Option Tmp)} {dl : List (List Nat)} {s : Nat} {a : Act} {G : Bool → World → Prop} {F : Facts} {S : (Nat → Value) → World → World → Prop} : ∀ (l : List Oper) (k : Nat), StepL P ops ds dl s a G F S k l → ∀ i o, l[i]? = some o →
    (if k + i = s then ∀ f w, G false w → HypL F dl f w ((dl[k + i]?).getD []) → Does P ops o (putL ds f ((dl[k + i]?).getD []) a) w fun v w' => S (restr f ((dl[k + i]?).getD [])) w w' ∧ G true w' ∧ F (k + i) (restr (upd f (k + i) v) ((k + i) :: (dl[k + i]?).getD [])) w'
      else ∀ b f w, (((dl[s]?).getD []).contains (k + i) = true → b = false) → G b w → HypL F dl f w ((dl[k + i]?).getD []) → Does P ops o (putL ds f ((dl[k + i]?).getD []) a) w fun v w' => Below w.heap.size w w' ∧ F (k + i) (restr (upd f (k + i) v) ((k + i) :: (dl[k + i]?).getD [])) w')
  | [], k, _, i, o, h => by simp at h
  | x :: l, k, hs, 0, o, h => by
    simp only [List.getElem?_cons_zero, Option.some.injEq] at h
    subst h
    exact hs.1
  | x :: l, k, hs, i + 1, o, h => by
    have := StepL.at l (k + 1) hs.2 i o (by simpa using h)
    rw [show k + (i + 1) = k + 1 + i by omega]
    exact this

theorem Does.mono {o : Oper} {a : Act} {w : World} {R R' : Value → World → Prop} (h : Does P ops o a w R) (hr : ∀ v w', R v w' → R' v w') : Does P ops o a w R' := fun K hK => h K fun v w' hv => hK v w' (hr v w' hv)

/-- The law as it is used: of a region whose order is drawn, and that writes by one operation (s) at most. -/
theorem wp_region_ord {Q : Exit → Act → World → Prop} {id : Nat} {a : Act} {w : World} (dl : List (List Nat)) (ds : List (Option Tmp)) (s : Nat) (G : Bool → World → Prop) (F : Facts) (S : (Nat → Value) → World → World → Prop)
    (hm : P.follows .mixedOrders = true) (hb : ordB .any ops = true) (hdl : ops.toList.map (depsOf .any) = dl) (hds : ops.toList.map (·.dst) = ds)
    (hGB : ∀ b w w', Below w.heap.size w w' → G b w → G b w')
    (hFB : ∀ j g w w', Below w.heap.size w w' → F j g w → F j g w')
    (hFS : ∀ j g f w w', j ≠ s → S f w w' → F j g w → F j g w')
    (h0 : G false w.drew)
    (hstep : StepL P ops ds dl s a G F S 0 ops.toList)
    (hend : ∀ f w, G (decide (s < dl.length)) w → HypL F dl f w (List.range dl.length) → Q .normal (putL ds f (List.range dl.length) a) w) :
    (Code.region id ops true).wp P Q a w := by
  have hlen : dl.length = ops.size := by subst hdl; simp
  have hda : ∀ j, depsAt .any ops j = (dl[j]?).getD [] := by
    intro j
    subst hdl
    simp only [depsAt, List.getElem?_map, Array.getElem?_toList]
  refine wp_region_any hm (wpAny_facts hb a (fun L => G (L s)) F (fun i f w w' => if i = s then S f w w' else Below w.heap.size w w')
    (fun i f w w' j g hR hji hf => ?_) (fun i o hoi L f w hLi hLd hg hd => ?_) (fun L f w hL hg hf => ?_) ops.size (Array.replicate ops.size false) (fun _ => undef) a w.drew (by simp) (by
      have := List.countP_le_length (p := fun b => !b) (l := (Array.replicate ops.size false).toList)
      simpa using this)
    (fun j hj => by simp [Array.getD_eq_getD_getElem?, Array.getElem?_replicate] at hj; split at hj <;> simp_all)
    (Agrees.start fun j hj => by simp [Array.getD_eq_getD_getElem?, Array.getElem?_replicate] at hj; split at hj <;> simp_all)
    (by
      have : (Array.replicate ops.size false).getD s false = false := by
        simp [Array.getD_eq_getD_getElem?, Array.getElem?_replicate]
        split <;> rfl
      show G ((Array.replicate ops.size false).getD s false) w.drew
      rw [this]; exact h0)
    (fun j hj => by simp [Array.getD_eq_getD_getElem?, Array.getElem?_replicate] at hj; split at hj <;> simp_all))
  · by_cases e : i = s
    · rw [if_pos e] at hR
      exact hFS j g f w w' (e ▸ hji) hR hf
    · rw [if_neg e] at hR
      exact hFB j g w w' hR hf
  · have hk := StepL.at ops.toList 0 hstep i o (by simpa using hoi)
    rw [Nat.zero_add] at hk
    have hdo : depsOf .any o = (dl[i]?).getD [] := by rw [← hda i, depsAt_eq hoi]
    rw [hdo] at hd ⊢
    rw [putL_eq hds]
    have hH : HypL F dl f w ((dl[i]?).getD []) := HypL.of _ fun j hj => by have := hd j hj; rwa [hda j] at this
    by_cases e : i = s
    · rw [if_pos e] at hk
      have hg' : G false w := by rw [← hLi, e]; exact hg
      refine (hk f w hg' hH).mono fun v w' h => ⟨by rw [if_pos e]; exact h.1, ?_, h.2.2⟩
      show G (upd L i true s) w'
      rw [upd, if_pos e.symm]
      exact h.2.1
    · rw [if_neg e] at hk
      refine (hk (L s) f w (fun h => hLd s (by rw [hda s]; simpa using h)) hg hH).mono fun v w' h => ⟨by rw [if_neg e]; exact h.1, ?_, h.2⟩
      show G (upd L i true s) w'
      rw [upd, if_neg (fun h => e h.symm)]
      exact hGB _ _ _ h.1 hg
  · rw [putL_eq hds, ← hlen]
    refine hend f w ?_ (HypL.of _ fun j hj => ?_)
    · have := hL s
      rw [← hlen] at this
      rw [← this]
      exact hg
    · have := hf j (by rw [← hlen]; simpa using hj)
      rwa [hda j] at this
end
end Go.Proofs.YtohnicmacmkapaaDoor
namespace Go.Proofs.YtohnicmacmkapaaDoor
open Go.RowKit
set_option linter.unusedVariables false

/-- Which of these operations has written a slot last. -/
def lookL (ds : List (Option Tmp)) : List Nat → Nat → Option Nat
  | [], _ => none
  | j :: l, t => (lookL ds l t).orElse fun _ => if ds[j]?.join = some t then some j else none
theorem putL_size (ds : List (Option Tmp)) (f : Nat → Value) : ∀ (l : List Nat) (a : Act), (putL ds f l a).tmps.size = a.tmps.size
  | [], a => rfl
  | j :: l, a => by rw [putL, putL_size ds f l, put_size]
theorem putL_defers (ds : List (Option Tmp)) (f : Nat → Value) : ∀ (l : List Nat) (a : Act), (putL ds f l a).defers = a.defers
  | [], a => rfl
  | j :: l, a => by rw [putL, putL_defers ds f l, put_defers]
theorem putL_get (ds : List (Option Tmp)) (f : Nat → Value) (t : Nat) : ∀ (l : List Nat) (a : Act), t < a.tmps.size → (putL ds f l a).tmps[t]? = match lookL ds l t with
    | some j => some (f j)
    | none => a.tmps[t]?
  | [], a, _ => rfl
  | j :: l, a, ht => by
    rw [putL, putL_get ds f t l _ (by rw [put_size]; exact ht), lookL]
    cases lookL ds l t with
    | some i => rfl
    | none =>
      simp only [Option.orElse_none]
      rw [put_get]
      by_cases e : ds[j]?.join = some t
      · rw [if_pos ⟨e, ht⟩, if_pos e]
      · rw [if_neg (fun h => e h.1), if_neg e]
theorem putL_look {ds : List (Option Tmp)} {f : Nat → Value} {t j n : Nat} {l : List Nat} {a : Act} (h : lookL ds l t = some j) (hs : a.tmps.size = n) (ht : decide (t < n) = true) {v : Value} (hv : f j = v) : (putL ds f l a).eval (.tmp t) = v := by
  simp only [Act.eval, Array.getD_eq_getD_getElem?]
  rw [putL_get ds f t l a (by rw [hs]; exact of_decide_eq_true ht), h, ← hv]
  rfl
theorem putL_none {ds : List (Option Tmp)} {f : Nat → Value} {t n : Nat} {l : List Nat} {a : Act} (h : lookL ds l t = none) (hs : a.tmps.size = n) (ht : decide (t < n) = true) {v : Value} (hv : a.eval (.tmp t) = v) : (putL ds f l a).eval (.tmp t) = v := by
  simp only [Act.eval, Array.getD_eq_getD_getElem?] at hv ⊢
  rw [putL_get ds f t l a (by rw [hs]; exact of_decide_eq_true ht), h]
  exact hv
theorem putLl {ds : List (Option Tmp)} {f : Nat → Value} {l : List Nat} {a A : Act} (hA : putL ds f l a = A) (t : Nat) {j : Nat} {v : Value} (hv : f j = v) (h : lookL ds l t = some j) (ht : decide (t < a.tmps.size) = true) : A.eval (.tmp t) = v := hA ▸ putL_look h rfl ht hv
theorem putLn {ds : List (Option Tmp)} {f : Nat → Value} {l : List Nat} {a A : Act} (hA : putL ds f l a = A) (t : Nat) {v : Value} (h : lookL ds l t = none) (ht : decide (t < a.tmps.size) = true) (hv : a.eval (.tmp t) = v) : A.eval (.tmp t) = v := hA ▸ putL_none h rfl ht hv
theorem slot_get {a : Act} {t : Nat} {v : Value} (h : a.eval (.tmp t) = v) : a.tmps[t]?.getD undef = v := by simpa [Act.eval] using h

section
variable {P : Program} {ops : Array Oper} {o : Oper} {a : Act} {w : World} {R : Value → World → Prop}

theorem wp_abs {c : Code} {Q : Exit → Act → World → Prop} (h : ∀ a0, a0 = a → Code.wp P c Q a0 w) : Code.wp P c Q a w := h a rfl
theorem Does.of_wp (hw : Region.wanted o (yielded ops a.tmps) = true) (h : ∀ K : Act → World → Prop, (∀ v w', R v w' → K (a.put o.dst v) w') → Oper.wp P o a w K (fun _ _ _ => False)) : Does P ops o a w R := fun K hK => by
  rw [if_pos hw]; exact h K hK
/-- An operation that yields, and leaves the world alone. -/
theorem Does.pure (hw : Region.wanted o (yielded ops a.tmps) = true) (v : Value) (hx : (execOp a.eval o).run P w = .ok (.value v) w) (hR : R v w) : Does P ops o a w R :=
  Does.of_wp hw fun K hK => by unfold Oper.wp; rw [hx]; exact hK v w hR
/-- A guarded operation that isn't wanted. -/
theorem Does.off (hw : Region.wanted o (yielded ops a.tmps) = false) (hR : R undef w) : Does P ops o a w R := fun K hK => by
  rw [if_neg (by rw [hw]; simp)]; exact hK _ _ hR
/-- A call of a Go function. -/
theorem Does.call (hw : Region.wanted o (yielded ops a.tmps) = true) (f : FuncId) (args : Array Value) (hx : (execOp a.eval o).run P w = .ok (.enter f args) w) (hc : Calls P f args w fun e w' => ∃ v, e = .returned v ∧ R v w') : Does P ops o a w R :=
  Does.of_wp hw fun K hK => by
    unfold Oper.wp
    rw [hx]
    refine Calls.mono hc fun e w' he => ?_
    obtain ⟨v, rfl, hr⟩ := he
    exact hK v w' hr
theorem Does.loadI (hw : Region.wanted o (yielded ops a.tmps) = true) (ty : TypeId) (x : Operand) (ho : o.op = .load ty x) (n : Nat) (e : TypeId) (hu : P.underlying ty = some (.array n e)) (hi : (P.info? ty).map (·.size) = some n)
    (B : Nat) (hx : a.eval x = .pointer (some ⟨B, 0, none⟩)) (K : IntKind) (zs : List Int) (hz : Arr K w B zs) (hn : zs.length = n) (hR : R (aggI K zs) w) : Does P ops o a w R :=
  Does.of_wp hw fun KK hK => by
    obtain ⟨t, hz⟩ := hz
    exact wp_load_row ty x ho B hx t _ _ _ hz hu rfl (by rw [hi]; simp [hn]) (hK _ _ hR)
/-- A struct of numbers of one kind, loaded whole. -/
theorem Does.loadS (hw : Region.wanted o (yielded ops a.tmps) = true) (ty : TypeId) (x : Operand) (ho : o.op = .load ty x) (n : Nat) (fs : Array Field) (hu : P.underlying ty = some (.struct fs)) (hi : (P.info? ty).map (·.size) = some n)
    (B : Nat) (hx : a.eval x = .pointer (some ⟨B, 0, none⟩)) (K : IntKind) (zs : List Int) (hz : Arr K w B zs) (hn : zs.length = n) (hR : R (aggI K zs) w) : Does P ops o a w R :=
  Does.of_wp hw fun KK hK => by
    obtain ⟨t, hz⟩ := hz
    exact wp_load_row ty x ho B hx t _ _ _ hz hu rfl (by rw [hi]; simp [hn]) (hK _ _ hR)
theorem Does.storeI (hw : Region.wanted o (yielded ops a.tmps) = true) (ty : TypeId) (x y : Operand) (ho : o.op = .store ty x y) (n : Nat) (hi : (P.info? ty).map (·.size) = some n)
    (B : Nat) (hx : a.eval x = .pointer (some ⟨B, 0, none⟩)) (K : IntKind) (zs ys : List Int) (hy : a.eval y = aggI K ys) (hz : Arr K w B zs) (hn : zs.length = n) (hm : ys.length = n)
    (hR : Arr K (w.setRow B (ys.map (Value.int K)).toArray) B ys → R undef (w.setRow B (ys.map (Value.int K)).toArray)) : Does P ops o a w R :=
  Does.of_wp hw fun KK hK => by
    have h' := hR (hz.setRow ys)
    obtain ⟨t, hz⟩ := hz
    refine wp_store_row ty x y ho B _ hx hy t _ hz (by rw [hi]; simp [hm]) (by simp [hn, hm]) ?_ (hK _ _ h')
    simp [Value.oneCell']
theorem Does.allocI (hw : Region.wanted o (yielded ops a.tmps) = true) (t : TypeId) (ho : o.op = .alloc t) (K : IntKind) (n : Nat) (hz : (P.info? t).bind (·.zero) = some (.agg (Array.replicate n (Value.int K 0))))
    (hR : ∀ w1, Arr K w1 w.heap.size (List.replicate n 0) → w.heap.size < w1.heap.size → Below w.heap.size w w1 → R (.pointer (some ⟨w.heap.size, 0, none⟩)) w1) : Does P ops o a w R :=
  Does.of_wp hw fun Kq hK => by
    cases hi : P.info? t with
    | none => rw [hi] at hz; cases hz
    | some i =>
      rw [hi] at hz
      have hz' : i.zero = some (.agg (Array.replicate n (Value.int K 0))) := hz
      have hti : (typeInfo t).run P w = .ok i w := by simp [typeInfo, hi]
      unfold Oper.wp execOp
      simp only [ho, Sem.run_bind, Instr.alloc, zeroValue, hti, hz', newVar, newRow, run_newObj_alloc, Sem.run_pure, Result.andThen_ok, Value.cells]
      refine hK _ _ (hR _ ⟨t, ?_⟩ (Array.getElem?_eq_some_iff.1 (heap_alloc_new w _)).1 ((Below.refl _ _).alloc (Nat.le_refl _) _))
      rw [heap_alloc_new]
      simp

theorem run_copyI (t t' ty elem : TypeId) (hu : P.underlying t = some (.slice elem)) (hs : (P.info? elem).map (·.size) = some 1) (B B' c c' : Nat) (K : IntKind) (zs ys : List Int) (hz : Arr K w B zs) (hy : Arr K w B' ys) (hle : ys.length ≤ zs.length) :
    (Builtin.copy_ #[t, t'] ty #[.slice (some ⟨B, 0, none⟩) zs.length c, .slice (some ⟨B', 0, none⟩) ys.length c']).run P w = .ok (goInt ys.length) (w.setRow B ((ys ++ zs.drop ys.length).map (Value.int K)).toArray) := by
  obtain ⟨tz, hz⟩ := hz
  have hcell : ∀ j v, (ys.map (Value.int K))[j]? = some v → w.cell? ((⟨B', 0, none⟩ : Addr).add j) = some v := by
    intro j v hj
    obtain ⟨ty, hy⟩ := hy
    rw [Addr.add_lit]
    simp only [World.cell?, hy, Nat.zero_add]
    simpa using hj
  have h := run_copy_row (P := P) w t t' ty elem B 0 zs.length c ⟨B', 0, none⟩ ys.length c' _ tz (ys.map (Value.int K)) hu hs hz (by simp [Nat.min_eq_left hle]) hcell (by simp; omega) (by simp [Value.oneCell'])
  rw [h]
  simp
theorem Does.copyI (hw : Region.wanted o (yielded ops a.tmps) = true) (d s : Operand) (t t' : TypeId) (ho : o.op = .call { callee := .builtin .copy, args := #[d, s], argTypes := #[t, t'] })
    (elem : TypeId) (hu : P.underlying t = some (.slice elem)) (hsz : (P.info? elem).map (·.size) = some 1) (B B' c c' n m : Nat) (hd : a.eval d = .slice (some ⟨B, 0, none⟩) n c) (hs : a.eval s = .slice (some ⟨B', 0, none⟩) m c') (K : IntKind) (zs ys : List Int)
    (hz : Arr K w B zs) (hy : Arr K w B' ys) (hn : zs.length = n) (hm : ys.length = m) (hle : m ≤ n)
    (hR : Arr K (w.setRow B ((ys ++ zs.drop ys.length).map (Value.int K)).toArray) B (ys ++ zs.drop ys.length) → R (goInt m) (w.setRow B ((ys ++ zs.drop ys.length).map (Value.int K)).toArray)) : Does P ops o a w R := by
  subst hn hm
  refine Does.of_wp hw fun KK hK => ?_
  have hr := run_copyI (P := P) t t' o.type elem hu hsz B B' c c' K zs ys hz hy hle
  unfold Oper.wp execOp
  simp only [ho, resolve, invoke, builtin, Sem.run_bind, Sem.run_pure, Result.andThen_ok, List.map_toArray, List.map_cons, List.map_nil, hd, hs, hr]
  exact hK _ _ (hR (hz.setRow _))

theorem Oper.wp_weaken {K : Act → World → Prop} {Q' Q : Exit → Act → World → Prop} (hq : ∀ e a w, Q' e a w → Q e a w) (h : Oper.wp P o a w K Q') : Oper.wp P o a w K Q := by
  unfold Oper.wp at *
  generalize (execOp a.eval o).run P w = r at *
  cases r with
  | ok n w' =>
    cases n <;> simp only [Oper.upon] at h ⊢ <;>
      first
        | exact h
        | exact Calls.mono h (fun e w'' he => by
            cases e with
            | returned u => exact he
            | panicked c => exact hq _ _ _ he
            | outgrown => obtain ⟨x, y, hxy⟩ := he; exact ⟨x, y, hq _ _ _ hxy⟩)
  | halt x w' =>
    cases x <;> simp only [Oper.upon] at h ⊢
    case panic u => exact hq _ _ _ h
/-- What is shown of one operation, in a region whose order is fixed. -/
theorem wpList_does {rest : List Oper} {Q : Exit → Act → World → Prop} (h : Does P ops o a w R) (hk : ∀ v w', R v w' → wpList P ops Q rest (a.put o.dst v) w') : wpList P ops Q (o :: rest) a w := by
  refine wpList_step fun K hK => ?_
  have h' := h K fun v w' hr => hK _ _ (hk v w' hr)
  split
  · next hw => rw [if_pos hw] at h'; exact Oper.wp_weaken (fun _ _ _ hf => hf.elim) h'
  · next hw => rw [if_neg hw] at h'; exact h'
/-- A guard that is met. -/
theorem wanted_of {g t : Nat} {b : Bool} (hg : o.guard = some (g, b)) (hd : dstAt ops g = some t) (hv : a.eval (.tmp t) = .bool b) : Region.wanted o (yielded ops a.tmps) = true := by
  have h : a.tmps[t]? = some (.bool b) := by
    simp only [Act.eval, Array.getD_eq_getD_getElem?] at hv
    cases hq : a.tmps[t]? with
    | none => rw [hq] at hv; simp [undef] at hv
    | some x => rw [hq] at hv; simp at hv; rw [hv]
  have hy : yielded ops a.tmps g = some b := by
    unfold yielded
    unfold dstAt at hd
    rw [hd]
    simp [h]
  unfold Region.wanted
  simp [hg, hy]
variable {ds : List (Option Tmp)} {dl : List (List Nat)} {s : Nat} {G : Bool → World → Prop} {F : Facts} {S : (Nat → Value) → World → World → Prop}
theorem StepL.other {k : Nat} {o : Oper} {l : List Oper} (hk : decide (k = s) = false) (h : ∀ b f w, (((dl[s]?).getD []).contains k = true → b = false) → G b w → HypL F dl f w ((dl[k]?).getD []) →
    Does P ops o (putL ds f ((dl[k]?).getD []) a) w fun v w' => Below w.heap.size w w' ∧ F k (restr (upd f k v) (k :: (dl[k]?).getD [])) w') (hl : StepL P ops ds dl s a G F S (k + 1) l) : StepL P ops ds dl s a G F S k (o :: l) :=
  ⟨by rw [if_neg (of_decide_eq_false hk)]; exact h, hl⟩
theorem StepL.self {k : Nat} {o : Oper} {l : List Oper} (hk : k = s) (h : ∀ f w, G false w → HypL F dl f w ((dl[k]?).getD []) →
    Does P ops o (putL ds f ((dl[k]?).getD []) a) w fun v w' => S (restr f ((dl[k]?).getD [])) w w' ∧ G true w' ∧ F k (restr (upd f k v) (k :: (dl[k]?).getD [])) w') (hl : StepL P ops ds dl s a G F S (k + 1) l) : StepL P ops ds dl s a G F S k (o :: l) :=
  ⟨by rw [if_pos hk]; exact h, hl⟩
end
end Go.Proofs.YtohnicmacmkapaaDoor
namespace Go.Proofs.YtohnicmacmkapaaDoor
open Go.RowKit
set_option linter.unusedVariables false

section
variable {P : Program} {ops : Array Oper} {md : Region.Mode}

/-- The law with one invariant of what has run, what it has yielded, and the world. -/
theorem wpAny_inv {Q : Exit → Act → World → Prop} (hb : ordB md ops = true) (a : Act) (I : (Nat → Bool) → (Nat → Value) → World → Prop)
    (hstep : ∀ i o, ops[i]? = some o → ∀ L f w, L i = false → (∀ j, i ∈ depsAt md ops j → L j = false) → (∀ j ∈ depsOf md o, L j = true) → (∀ j, L j = true → ∀ k ∈ depsAt md ops j, L k = true) → I L f w →
      Does P ops o (putDeps ops f (depsOf md o) a) w fun v w' => I (upd L i true) (upd f i v) w')
    (hend : ∀ L f w, (∀ j, L j = decide (j < ops.size)) → I L f w → Q .normal (putDeps ops f (List.range ops.size) a) w) :
    ∀ (fuel : Nat) (listed : Array Bool) (f : Nat → Value) (a' : Act) (w : World), listed.size = ops.size → (listed.toList.countP (fun b => !b) ≤ fuel) →
      (∀ j, listed.getD j false = true → ∀ k ∈ depsAt md ops j, listed.getD k false = true) →
      Agrees ops (fun j => listed.getD j false = true) f a a' → I (fun j => listed.getD j false) f w → wpAny P md ops Q fuel listed a' w := by
  have ho := ordB_own hb
  have fin : ∀ (listed : Array Bool) (f : Nat → Value) (a' : Act) (w : World), listed.size = ops.size → Region.ready md ops listed = [] →
      Agrees ops (fun j => listed.getD j false = true) f a a' → I (fun j => listed.getD j false) f w → Q .normal a' w := by
    intro listed f a' w hsz hr hag hg
    have hl := all_listed hb hsz hr
    have hout : ∀ j, listed.getD j false = true → j < ops.size := by
      intro j h
      rcases Nat.lt_or_ge j ops.size with h' | h'
      · exact h'
      · simp [Array.getElem?_eq_none (by omega : listed.size ≤ j)] at h
    have e : a' = putDeps ops f (List.range ops.size) a := by
      refine hag.unique ((Agrees.of ho f a (List.range ops.size)).congr (fun j => ?_) (fun _ _ => rfl))
      rw [List.mem_range]
      exact ⟨hl j, hout j⟩
    rw [e]
    refine hend _ f w (fun j => ?_) hg
    by_cases hj : j < ops.size
    · rw [hl j hj]; simp [hj]
    · have : ¬ listed.getD j false = true := fun h => hj (hout j h)
      rw [Bool.not_eq_true] at this
      rw [this]; simp [hj]
  intro fuel
  induction fuel with
  | zero =>
    intro listed f a' w hsz hc hcl hag hg
    have hr : Region.ready md ops listed = [] := by
      rw [List.eq_nil_iff_forall_not_mem]
      intro j hj
      obtain ⟨h0, o, hoj, _⟩ := mem_ready.1 hj
      have hjs : j < ops.size := (Array.getElem?_eq_some_iff.1 hoj).1
      have hc0 : listed.toList.countP (fun b => !b) = 0 := by omega
      rw [List.countP_eq_zero] at hc0
      have h1 := hc0 listed[j] (by simp)
      rw [Array.getD_eq_getD_getElem?, Array.getElem?_eq_getElem (by omega)] at h0
      simp only [Option.getD_some] at h0
      rw [h0] at h1
      exact h1 rfl
    exact ⟨hr, fin listed f a' w hsz hr hag hg⟩
  | succ fuel ih =>
    intro listed f a' w hsz hc hcl hag hg
    refine ⟨fun hr => fin listed f a' w hsz hr hag hg, fun i hi => ?_⟩
    obtain ⟨h0, o, hoi, hdep⟩ := mem_ready.1 hi
    have his : i < ops.size := (Array.getElem?_eq_some_iff.1 hoi).1
    obtain ⟨hsel, hlt, hlook⟩ := ordB_deps hb hoi
    have hdl : ∀ j ∈ depsOf md o, listed.getD j false = true := by
      intro j hj
      obtain ⟨e, he, rfl⟩ := List.mem_map.1 hj
      obtain ⟨he1, he2⟩ := List.mem_filter.1 he
      exact hdep e (by simpa using he1) he2
    have hun : ¬ listed.getD i false = true := by
      intro h
      rw [Array.getD_eq_getD_getElem?, Array.getElem?_eq_getElem (by omega)] at h0 h
      simp only [Option.getD_some] at h0 h
      rw [h0] at h
      cases h
    have hA := Agrees.of ho f a (depsOf md o)
    have hdst : o.dst = dstAt ops i := by simp [dstAt, hoi]
    have hset : ∀ j, (listed.setIfInBounds i true).getD j false = upd (fun j => listed.getD j false) i true j := by
      intro j
      unfold upd
      by_cases e : j = i
      · subst e
        simp [Array.getD_eq_getD_getElem?, hsz, his]
      · rw [getD_set_ne false (fun h => e h.symm), if_neg e]
    refine Does.wpOp hoi hsel (a := putDeps ops f (depsOf md o) a) (by rw [hag.size, hA.size]) (fun t ht => ?_)
      (hstep i o hoi (fun j => listed.getD j false) f w (by simpa using hun) (fun j hj => by
        rw [← Bool.not_eq_true]
        exact fun h => hun (hcl j h i hj)) hdl hcl hg) fun v w' hR => ?_
    · by_cases hts : t < a.tmps.size
      · by_cases e : ∃ j, dstAt ops j = some t
        · obtain ⟨j, hd⟩ := e
          have hj' : j < ops.size := by
            rcases Nat.lt_or_ge j ops.size with h | h
            · exact h
            · simp [dstAt, Array.getElem?_eq_none h] at hd
          have hl := hlook j t hj' hd
          by_cases hjd : j ∈ depsOf md o
          · rw [hag.put j t (hdl j hjd) hd hts, hA.put j t hjd hd hts]
          · have hjl : ¬ listed.getD j false = true := by
              intro hjl
              rcases hl.1 ht with h | h | h
              · exact hun (h ▸ hjl)
              · exact hjd h
              · exact hun (hcl j hjl i h)
            rw [hag.same t (fun k hk hkd => hjl (ho k j t hkd hd ▸ hk)), hA.same t (fun k hk hkd => hjd (ho k j t hkd hd ▸ hk))]
        · have hn : ∀ j, dstAt ops j ≠ some t := fun j hj => e ⟨j, hj⟩
          rw [hag.same t (fun j _ => hn j), hA.same t (fun j _ => hn j)]
      · rw [Array.getElem?_eq_none (by rw [hag.size]; exact Nat.le_of_not_lt hts), Array.getElem?_eq_none (by rw [hA.size]; exact Nat.le_of_not_lt hts)]
    · have hset' : ∀ j, (listed.setIfInBounds i true).getD j false = true ↔ (j = i ∨ listed.getD j false = true) := by
        intro j
        rw [hset j]
        unfold upd
        by_cases e : j = i <;> simp [e]
      rw [hdst]
      refine ih (listed.setIfInBounds i true) (upd f i v) _ w' (by simp [hsz]) ?_ ?_ ?_ (by rw [show (fun j => (listed.setIfInBounds i true).getD j false) = upd (fun j => listed.getD j false) i true from funext hset]; exact hR)
      · have hc2 : (listed.setIfInBounds i true).toList.countP (fun b => !b) + 1 ≤ listed.toList.countP (fun b => !b) := by
          rw [Array.toList_setIfInBounds]
          have hlen : i < listed.toList.length := by simpa [hsz] using his
          have hli : listed.toList[i] = false := by
            rw [Array.getD_eq_getD_getElem?, Array.getElem?_eq_getElem (by omega)] at h0
            simpa using h0
          rw [List.countP_set hlen, hli]
          have : 0 < listed.toList.countP (fun b => !b) := List.countP_pos_iff.2 ⟨false, by rw [← hli]; exact List.getElem_mem _, rfl⟩
          simp only [Bool.not_false, Bool.not_true, if_true, Bool.false_eq_true, if_false]
          omega
        omega
      · intro j hj k hk
        rw [hset'] at hj ⊢
        rcases hj with rfl | hj
        · rw [depsAt_eq hoi] at hk
          exact .inr (hdl k hk)
        · exact .inr (hcl j hj k hk)
      · exact hag.step ho i v hset' (fun j hji _ => by simp [upd, hji]) (by simp [upd])

/-- A variable that the region makes (operation ka) and stores v into (operation ks). -/
structure NItem where
  ka : Nat
  ks : Nat
  K : IntKind
  n : Nat
  v : List Int
/-- What holds of the variables that were made. -/
def NewEO (base : Nat) (items : List NItem) (L : Nat → Bool) (f : Nat → Value) (w : World) : Prop :=
  ∃ loc : Nat → Nat, (∀ it ∈ items, L it.ka = true → f it.ka = .pointer (some ⟨loc it.ka, 0, none⟩) ∧ base ≤ loc it.ka ∧ Arr it.K w (loc it.ka) (if L it.ks then it.v else List.replicate it.n 0)) ∧
    (∀ it ∈ items, ∀ it' ∈ items, L it.ka = true → L it'.ka = true → it.ka ≠ it'.ka → loc it.ka ≠ loc it'.ka)
inductive NKind where
  | plain
  | alloc (it : NItem)
  | store (it : NItem)
def nkind (items : List NItem) (k : Nat) : NKind :=
  match items.find? (fun it => it.ka == k) with
  | some it => .alloc it
  | none => match items.find? (fun it => it.ks == k) with
    | some it => .store it
    | none => .plain
/-- No two have one operation; a store waits for the variable's making. -/
def itemsB (dl : List (List Nat)) (items : List NItem) : Bool :=
  items.all fun it => items.all (fun it' => it.ka != it'.ks && (it.ka != it'.ka || (it.ks == it'.ks)) && (it.ks != it'.ks || it.ka == it'.ka)) && ((dl[it.ks]?).getD []).contains it.ka
def ItemsOne (items : List NItem) : Prop := ∀ it ∈ items, ∀ it' ∈ items, it.ka = it'.ka → it = it'
variable {ds : List (Option Tmp)} {dl : List (List Nat)} {G : World → Prop} {F : Facts} {base : Nat} {items : List NItem} {a : Act}
theorem NewEO.start {L : Nat → Bool} {f : Nat → Value} {w : World} (h : ∀ j, L j = false) : NewEO base items L f w :=
  ⟨fun _ => 0, fun it _ (hl : L it.ka = true) => absurd hl (by rw [h]; decide), fun it _ it' _ (hl : L it.ka = true) => absurd hl (by rw [h]; decide)⟩
theorem NewEO.below {L : Nat → Bool} {f : Nat → Value} {w w' : World} (h : NewEO base items L f w) (hb : Below w.heap.size w w') : NewEO base items L f w' := by
  obtain ⟨loc, h1, h2⟩ := h
  exact ⟨loc, fun it hi hl => ⟨(h1 it hi hl).1, (h1 it hi hl).2.1, (h1 it hi hl).2.2.below hb⟩, h2⟩
theorem NewEO.plain {L : Nat → Bool} {f : Nat → Value} {w : World} {k : Nat} {v : Value} (h : NewEO base items L f w) (hk : ∀ it ∈ items, it.ka ≠ k ∧ it.ks ≠ k) : NewEO base items (upd L k true) (upd f k v) w := by
  obtain ⟨loc, h1, h2⟩ := h
  refine ⟨loc, fun it hi hl => ?_, fun it hi it' hi' hl hl' => ?_⟩
  · have e := hk it hi
    simp only [upd, if_neg e.1, if_neg e.2] at hl ⊢
    exact h1 it hi hl
  · have e := hk it hi
    have e' := hk it' hi'
    simp only [upd, if_neg e.1, if_neg e'.1] at hl hl'
    exact h2 it hi it' hi' hl hl'
theorem NewEO.alloc {L : Nat → Bool} {f : Nat → Value} {w w' : World} {it : NItem} (hone : ItemsOne items) (hok : itemsB dl items = true) (hi : it ∈ items) (hks : L it.ks = false) (hb : Below w.heap.size w w') (hbase : base ≤ w.heap.size)
    (hA : Arr it.K w' w.heap.size (List.replicate it.n 0)) (h : NewEO base items L f w) : NewEO base items (upd L it.ka true) (upd f it.ka (.pointer (some ⟨w.heap.size, 0, none⟩))) w' := by
  obtain ⟨loc, h1, h2⟩ := h
  refine ⟨upd loc it.ka w.heap.size, fun jt hj hl => ?_, fun jt hj jt' hj' hl hl' hne => ?_⟩
  · have hck := (List.all_eq_true.1 hok it hi)
    simp only [Bool.and_eq_true] at hck
    have hck2 := List.all_eq_true.1 hck.1 jt hj
    simp only [Bool.and_eq_true, bne_iff_ne, ne_eq, Bool.or_eq_true, beq_iff_eq] at hck2
    have hks' : jt.ks ≠ it.ka := fun e => hck2.1.1 e.symm
    by_cases e : jt.ka = it.ka
    · obtain rfl := hone jt hj it hi e
      simp only [upd, if_true, if_neg hks', hks]
      exact ⟨trivial, hbase, hA⟩
    · simp only [upd, if_neg e, if_neg hks'] at hl ⊢
      have := h1 jt hj hl
      exact ⟨this.1, this.2.1, this.2.2.below hb⟩
  · by_cases e : jt.ka = it.ka
    · have e' : jt'.ka ≠ it.ka := fun x => hne (e.trans x.symm)
      simp only [upd, e, if_true, if_neg e'] at hl' ⊢
      have := (h1 jt' hj' hl').2.2.lt
      omega
    · simp only [upd, if_neg e] at hl ⊢
      by_cases e' : jt'.ka = it.ka
      · simp only [e', if_true]
        have := (h1 jt hj hl).2.2.lt
        omega
      · simp only [upd, if_neg e'] at hl' ⊢
        exact h2 jt hj jt' hj' hl hl' hne
theorem NewEO.store {L : Nat → Bool} {f : Nat → Value} {w w' : World} {it : NItem} {B : Nat} {v : Value} (hone : ItemsOne items) (hok : itemsB dl items = true) (hi : it ∈ items) (hka : L it.ka = true) (hB : f it.ka = .pointer (some ⟨B, 0, none⟩))
    (hw : w' = w.setRow B (it.v.map (Value.int it.K)).toArray) (hA : Arr it.K w' B it.v) (h : NewEO base items L f w) : NewEO base items (upd L it.ks true) (upd f it.ks v) w' := by
  obtain ⟨loc, h1, h2⟩ := h
  have hl0 : loc it.ka = B := by
    have := (h1 it hi hka).1
    rw [hB] at this
    simpa using this.symm
  have hck := (List.all_eq_true.1 hok it hi)
  simp only [Bool.and_eq_true] at hck
  have hkk : ∀ jt ∈ items, jt.ka ≠ it.ks := fun jt hj e => by
    have h3 := (List.all_eq_true.1 hok jt hj)
    simp only [Bool.and_eq_true] at h3
    have h4 := List.all_eq_true.1 h3.1 it hi
    simp only [Bool.and_eq_true, bne_iff_ne, ne_eq] at h4
    exact h4.1.1 e
  refine ⟨loc, fun jt hj hl => ?_, fun jt hj jt' hj' hl hl' hne => ?_⟩
  · have hjk := hkk jt hj
    simp only [upd, if_neg hjk] at hl ⊢
    have h5 := h1 jt hj hl
    by_cases e : jt.ka = it.ka
    · obtain rfl := hone jt hj it hi e
      simp only [if_true]
      rw [hl0]
      exact ⟨by rw [hB], by rw [← hl0]; exact h5.2.1, hA⟩
    · have hck2 := List.all_eq_true.1 hck.1 jt hj
      simp only [Bool.and_eq_true, bne_iff_ne, ne_eq, Bool.or_eq_true, beq_iff_eq] at hck2
      have hs : jt.ks ≠ it.ks := fun x => by
        rcases hck2.2 with y | y
        · exact y x.symm
        · exact e y.symm
      simp only [if_neg hs]
      refine ⟨h5.1, h5.2.1, ?_⟩
      rw [hw]
      refine h5.2.2.rowOther ?_ _
      rw [← hl0]
      exact h2 jt hj it hi hl hka e
  · simp only [upd, if_neg (hkk jt hj), if_neg (hkk jt' hj')] at hl hl'
    exact h2 jt hj jt' hj' hl hl' hne
/-- Each operation's own step. -/
def StepN (P : Program) (ops : Array Oper) (ds : List (Option Tmp)) (dl : List (List Nat)) (a : Act) (G : World → Prop) (F : Facts) (items : List NItem) : Nat → List Oper → Prop
  | _, [] => True
  | k, o :: l => (match nkind items k with
      | .plain => ∀ f w, G w → HypL F dl f w ((dl[k]?).getD []) → Does P ops o (putL ds f ((dl[k]?).getD []) a) w fun v w' => Below w.heap.size w w' ∧ F k (restr (upd f k v) (k :: (dl[k]?).getD [])) w'
      | .alloc it => (∀ g w, F k g w) ∧ ∀ A w, Does P ops o A w fun v w' => Below w.heap.size w w' ∧ v = .pointer (some ⟨w.heap.size, 0, none⟩) ∧ Arr it.K w' w.heap.size (List.replicate it.n 0)
      | .store it => (∀ g w, F k g w) ∧ ∀ f w B, G w → HypL F dl f w ((dl[k]?).getD []) → f it.ka = .pointer (some ⟨B, 0, none⟩) → Arr it.K w B (List.replicate it.n 0) →
          Does P ops o (putL ds f ((dl[k]?).getD []) a) w fun v w' => w' = w.setRow B (it.v.map (Value.int it.K)).toArray ∧ Arr it.K w' B it.v) ∧ StepN P ops ds dl a G F items (k + 1) l
theorem StepN.at : ∀ (l : List Oper) (k : Nat), StepN P ops ds dl a G F items k l → ∀ i o, l[i]? = some o →
    (match nkind items (k + i) with
      | .plain => ∀ f w, G w → HypL F dl f w ((dl[k + i]?).getD []) → Does P ops o (putL ds f ((dl[k + i]?).getD []) a) w fun v w' => Below w.heap.size w w' ∧ F (k + i) (restr (upd f (k + i) v) ((k + i) :: (dl[k + i]?).getD [])) w'
      | .alloc it => (∀ g w, F (k + i) g w) ∧ ∀ A w, Does P ops o A w fun v w' => Below w.heap.size w w' ∧ v = .pointer (some ⟨w.heap.size, 0, none⟩) ∧ Arr it.K w' w.heap.size (List.replicate it.n 0)
      | .store it => (∀ g w, F (k + i) g w) ∧ ∀ f w B, G w → HypL F dl f w ((dl[k + i]?).getD []) → f it.ka = .pointer (some ⟨B, 0, none⟩) → Arr it.K w B (List.replicate it.n 0) →
          Does P ops o (putL ds f ((dl[k + i]?).getD []) a) w fun v w' => w' = w.setRow B (it.v.map (Value.int it.K)).toArray ∧ Arr it.K w' B it.v)
  | [], k, _, i, o, h => by simp at h
  | x :: l, k, hs, 0, o, h => by
    simp only [List.getElem?_cons_zero, Option.some.injEq] at h
    subst h
    exact hs.1
  | x :: l, k, hs, i + 1, o, h => by
    have := StepN.at l (k + 1) hs.2 i o (by simpa using h)
    rw [show k + (i + 1) = k + 1 + i by omega]
    exact this
/-- The law as it is used: of a region whose order is drawn, and that makes variables and stores into each once. -/
theorem wp_region_new {Q : Exit → Act → World → Prop} {id : Nat} {w : World} (dl : List (List Nat)) (ds : List (Option Tmp)) (base : Nat) (items : List NItem) (G : World → Prop) (F : Facts)
    (hm : P.follows .mixedOrders = true) (hb : ordB .any ops = true) (hdl : ops.toList.map (depsOf .any) = dl) (hds : ops.toList.map (·.dst) = ds) (hok : itemsB dl items = true) (hone : ItemsOne items)
    (hGB : ∀ w w', Below w.heap.size w w' → G w → G w') (hGb : ∀ w, G w → base ≤ w.heap.size) (hGS : ∀ w B cs, base ≤ B → G w → G (w.setRow B cs))
    (hFB : ∀ j g w w', F j g w → F j g w')
    (h0 : G w.drew)
    (hstep : StepN P ops ds dl a G F items 0 ops.toList)
    (hin : ∀ it ∈ items, it.ka < dl.length ∧ it.ks < dl.length)
    (hend : ∀ f w, G w → HypL F dl f w (List.range dl.length) → NewEO base items (fun _ => true) f w → Q .normal (putL ds f (List.range dl.length) a) w) :
    (Code.region id ops true).wp P Q a w := by
  have hlen : dl.length = ops.size := by subst hdl; simp
  have hda : ∀ j, depsAt .any ops j = (dl[j]?).getD [] := by
    intro j
    subst hdl
    simp only [depsAt, List.getElem?_map, Array.getElem?_toList]
  have hnone : ∀ j, (Array.replicate ops.size false).getD j false = false := by
    intro j
    simp [Array.getD_eq_getD_getElem?, Array.getElem?_replicate]
    split <;> rfl
  refine wp_region_any hm (wpAny_inv hb a (fun L f w => G w ∧ (∀ j, L j = true → F j (restr f (j :: (dl[j]?).getD [])) w) ∧ NewEO base items L f w)
    (fun i o hoi L f w hLi hLd hdeps hcl hI => ?_) (fun L f w hL hI => ?_) ops.size (Array.replicate ops.size false) (fun _ => undef) a w.drew (by simp) (by
      have := List.countP_le_length (p := fun b => !b) (l := (Array.replicate ops.size false).toList)
      simpa using this)
    (fun j hj => absurd hj (by rw [hnone]; decide))
    (Agrees.start fun j hj => absurd hj (by rw [hnone]; decide))
    ⟨h0, fun j (hj : (Array.replicate ops.size false).getD j false = true) => absurd hj (by rw [hnone]; decide), NewEO.start hnone⟩)
  · obtain ⟨hg, hf, he⟩ := hI
    have hdo : depsOf .any o = (dl[i]?).getD [] := by rw [← hda i, depsAt_eq hoi]
    have hk := StepN.at ops.toList 0 hstep i o (by simpa using hoi)
    rw [Nat.zero_add] at hk
    rw [hdo] at hdeps ⊢
    rw [putL_eq hds]
    have hH : HypL F dl f w ((dl[i]?).getD []) := HypL.of _ fun j hj => hf j (hdeps j hj)
    have hnext : ∀ v w', (∀ j, L j = true → F j (restr f (j :: (dl[j]?).getD [])) w → F j (restr f (j :: (dl[j]?).getD [])) w') → F i (restr (upd f i v) (i :: (dl[i]?).getD [])) w' →
        ∀ j, upd L i true j = true → F j (restr (upd f i v) (j :: (dl[j]?).getD [])) w' := by
      intro v w' hst hi j hj
      by_cases e : j = i
      · subst e; exact hi
      · simp only [upd, if_neg e] at hj
        have hnc : (j :: (dl[j]?).getD []).contains i = false := by
          rw [← Bool.not_eq_true, List.contains_iff_mem, List.mem_cons]
          rintro (h | h)
          · exact e h.symm
          · have := hLd j (by rw [hda j]; exact h)
            rw [this] at hj
            cases hj
        rw [restr_upd hnc]
        exact hst j hj (hf j hj)
    cases hkind : nkind items i with
    | plain =>
      rw [hkind] at hk
      have hne : ∀ it ∈ items, it.ka ≠ i ∧ it.ks ≠ i := by
        intro it hi
        unfold nkind at hkind
        cases h1 : items.find? (fun it => it.ka == i) with
        | some x => rw [h1] at hkind; cases hkind
        | none =>
          rw [h1] at hkind
          cases h2 : items.find? (fun it => it.ks == i) with
          | some x => rw [h2] at hkind; cases hkind
          | none =>
            have a1 := List.find?_eq_none.1 h1 it hi
            have a2 := List.find?_eq_none.1 h2 it hi
            exact ⟨fun e => a1 (by simp [e]), fun e => a2 (by simp [e])⟩
      refine (hk f w hg hH).mono fun v w' h => ⟨hGB _ _ h.1 hg, hnext v w' (fun j _ hx => hFB j _ w w' hx) h.2, (he.below h.1).plain hne⟩
    | alloc it =>
      rw [hkind] at hk
      obtain ⟨hit, hka⟩ : it ∈ items ∧ it.ka = i := by
        unfold nkind at hkind
        cases h1 : items.find? (fun it => it.ka == i) with
        | some x =>
          rw [h1] at hkind
          obtain rfl : x = it := by simpa using hkind
          exact ⟨List.mem_of_find?_eq_some h1, by have := List.find?_some h1; simpa using this⟩
        | none =>
          rw [h1] at hkind
          cases h2 : items.find? (fun it => it.ks == i) with
          | some x => rw [h2] at hkind; cases hkind
          | none => rw [h2] at hkind; cases hkind
      have hks : L it.ks = false := by
        refine hLd it.ks ?_
        rw [hda]
        have h3 := (List.all_eq_true.1 hok it hit)
        simp only [Bool.and_eq_true] at h3
        rw [← hka]
        exact List.contains_iff_mem.1 h3.2
      refine (hk.2 _ w).mono fun v w' h => ⟨hGB _ _ h.1 hg, hnext v w' (fun j _ hx => hFB j _ w w' hx) (hk.1 _ _), ?_⟩
      rw [h.2.1]
      subst hka
      exact he.alloc hone hok hit hks h.1 (hGb w hg) h.2.2
    | store it =>
      rw [hkind] at hk
      obtain ⟨hit, hks⟩ : it ∈ items ∧ it.ks = i := by
        unfold nkind at hkind
        cases h1 : items.find? (fun it => it.ka == i) with
        | some x => rw [h1] at hkind; cases hkind
        | none =>
          rw [h1] at hkind
          cases h2 : items.find? (fun it => it.ks == i) with
          | some x =>
            rw [h2] at hkind
            obtain rfl : x = it := by simpa using hkind
            exact ⟨List.mem_of_find?_eq_some h2, by have := List.find?_some h2; simpa using this⟩
          | none => rw [h2] at hkind; cases hkind
      subst hks
      have h3 := (List.all_eq_true.1 hok it hit)
      simp only [Bool.and_eq_true] at h3
      have hka : L it.ka = true := hdeps it.ka (List.contains_iff_mem.1 h3.2)
      obtain ⟨loc, h1, h2⟩ := he
      have h4 := h1 it hit hka
      rw [hLi] at h4
      refine (hk.2 f w (loc it.ka) hg hH h4.1 h4.2.2).mono fun v w' h => ⟨by rw [h.1]; exact hGS _ _ _ h4.2.1 hg, hnext v w' (fun j _ hx => hFB j _ w w' hx) (hk.1 _ _), NewEO.store hone hok hit hka h4.1 h.1 h.2 ⟨loc, h1, h2⟩⟩
  · obtain ⟨hg, hf, he⟩ := hI
    rw [putL_eq hds, ← hlen]
    refine hend f w hg (HypL.of _ fun j hj => hf j (by rw [hL j, ← hlen]; simpa using hj)) ?_
    obtain ⟨loc, h1, h2⟩ := he
    have hall : ∀ j, j < dl.length → L j = true := fun j hj => by rw [hL j, ← hlen]; simpa using hj
    refine ⟨loc, fun it hi _ => ?_, fun it hi it' hi' _ _ hne => h2 it hi it' hi' (hall _ (hin it hi).1) (hall _ (hin it' hi').1) hne⟩
    have h5 := h1 it hi (hall _ (hin it hi).1)
    rw [hall _ (hin it hi).2] at h5
    exact h5
/-- What the law yields, for two variables. -/
theorem NewEO.two {i1 i2 : NItem} {f : Nat → Value} {w : World} (h : NewEO base [i1, i2] (fun _ => true) f w) (hne : i1.ka ≠ i2.ka) :
    ∃ B C, f i1.ka = .pointer (some ⟨B, 0, none⟩) ∧ f i2.ka = .pointer (some ⟨C, 0, none⟩) ∧ base ≤ B ∧ base ≤ C ∧ B ≠ C ∧ Arr i1.K w B i1.v ∧ Arr i2.K w C i2.v := by
  obtain ⟨loc, h1, h2⟩ := h
  have a1 := h1 i1 (by simp) rfl
  have a2 := h1 i2 (by simp) rfl
  exact ⟨loc i1.ka, loc i2.ka, a1.1, a2.1, a1.2.1, a2.2.1, h2 i1 (by simp) i2 (by simp) rfl rfl hne, a1.2.2, a2.2.2⟩
theorem StepN.plain {k : Nat} {o : Oper} {l : List Oper} (hk : nkind items k = .plain) (h : ∀ f w, G w → HypL F dl f w ((dl[k]?).getD []) → Does P ops o (putL ds f ((dl[k]?).getD []) a) w fun v w' => Below w.heap.size w w' ∧ F k (restr (upd f k v) (k :: (dl[k]?).getD [])) w')
    (hl : StepN P ops ds dl a G F items (k + 1) l) : StepN P ops ds dl a G F items k (o :: l) := ⟨by rw [hk]; exact h, hl⟩
theorem StepN.alloc {k : Nat} {o : Oper} {l : List Oper} {it : NItem} (hk : nkind items k = .alloc it) (hT : ∀ g w, F k g w) (h : ∀ A w, Does P ops o A w fun v w' => Below w.heap.size w w' ∧ v = .pointer (some ⟨w.heap.size, 0, none⟩) ∧ Arr it.K w' w.heap.size (List.replicate it.n 0))
    (hl : StepN P ops ds dl a G F items (k + 1) l) : StepN P ops ds dl a G F items k (o :: l) := ⟨by rw [hk]; exact ⟨hT, h⟩, hl⟩
theorem StepN.store {k : Nat} {o : Oper} {l : List Oper} {it : NItem} (hk : nkind items k = .store it) (hT : ∀ g w, F k g w) (h : ∀ f w B, G w → HypL F dl f w ((dl[k]?).getD []) → f it.ka = .pointer (some ⟨B, 0, none⟩) → Arr it.K w B (List.replicate it.n 0) →
          Does P ops o (putL ds f ((dl[k]?).getD []) a) w fun v w' => w' = w.setRow B (it.v.map (Value.int it.K)).toArray ∧ Arr it.K w' B it.v)
    (hl : StepN P ops ds dl a G F items (k + 1) l) : StepN P ops ds dl a G F items k (o :: l) := ⟨by rw [hk]; exact ⟨hT, h⟩, hl⟩
end
end Go.Proofs.YtohnicmacmkapaaDoor
--@optional
namespace Go.Proofs.YtohnicmacmkapaaDoor
open Go.RowKit
set_option linter.unusedVariables false
set_option maxRecDepth 8000

def clampS (za : List Int) : List Int := (za.set 0 (at0 za 0 / 8 * 8)).set 31 (at0 za 31 % 64 + 64)
theorem info_a32 : (Tryd.prog.info? 27).map (·.size) = some 32 := by kernel_rfl
theorem zero_a32 : (Tryd.prog.info? 27).bind (·.zero) = some (.agg (Array.replicate 32 (Value.int .u8 0))) := by kernel_rfl
theorem und_a32 : Tryd.prog.underlying 27 = some (.array 32 5) := by kernel_rfl
theorem byte_of {p : Int → Prop} (h : ∀ n, n < 256 → p (n : Nat)) {x : Int} (hx : 0 ≤ x ∧ x ≤ 255) : p x := by
  obtain ⟨n, rfl⟩ := Int.eq_ofNat_of_zero_le hx.1
  exact h n (by omega)
theorem clamp_lo {x : Int} (hx : 0 ≤ x ∧ x ≤ 255) : bits BinOp.and IntKind.u8 x 248 = x / 8 * 8 :=
  byte_of (p := fun x => bits BinOp.and IntKind.u8 x 248 = x / 8 * 8) (by decide +kernel) hx
theorem clamp_hi {x : Int} (hx : 0 ≤ x ∧ x ≤ 255) : bits BinOp.or IntKind.u8 (bits BinOp.and IntKind.u8 x 127) 64 = x % 64 + 64 :=
  byte_of (p := fun x => bits BinOp.or IntKind.u8 (bits BinOp.and IntKind.u8 x 127) 64 = x % 64 + 64) (by decide +kernel) hx
theorem Below.setRow {B : Nat} {a w : World} (h : Below B a w) {g : Nat} (hg : B ≤ g) (cs : Array Value) : Below B a (w.setRow g cs) := by
  refine ⟨h.os, h.tape, h.output, ?_, fun k hk => ?_⟩
  · have := h.size
    simpa [World.setRow] using this
  · rw [setRow_other w g k cs (by omega)]
    exact h.block k hk

end Go.Proofs.YtohnicmacmkapaaDoor
namespace Go.Proofs.YtohnicmacmkapaaDoor
open Go.RowKit
set_option linter.unusedVariables false
set_option maxRecDepth 8000

section
variable {P : Program} {ops : Array Oper} {o : Oper} {a : Act} {w : World} {R : Value → World → Prop}

theorem run_partIo (e : TypeId) (d : TypeDesc) (he : P.underlying e = some d) (hd : (match d with | .struct _ | .array _ _ => true | _ => false) = false) (K : IntKind) (zs : List Int) (i : Nat) (hi : i < zs.length) :
    (part e (zs.map (Value.int K)).toArray i).run P w = .ok (.int K (at0 zs i)) w := by
  have hagg : (isAgg e).run P w = .ok false w := by
    unfold isAgg
    rw [Sem.run_bind, run_underlying he w]
    cases d <;> simp_all
  simp [part, Sem.run_bind, hagg, hi, at0]
theorem run_eqItemsIo (d : Nat) (e : TypeId) (K K' : IntKind) (xs ys : List Int) (he : P.underlying e = some (.int K')) : ∀ is : List Nat, (∀ i ∈ is, i < xs.length ∧ i < ys.length) →
    (Op.eqItems (d + 1) e 1 (xs.map (Value.int K)).toArray (ys.map (Value.int K)).toArray is).run P w = .ok (decide (∀ i ∈ is, at0 xs i = at0 ys i)) w
  | [], _ => by simp [Op.eqItems]
  | i :: is, h => by
    have h1 := run_partIo (w := w) e _ he rfl K xs i (h i (by simp)).1
    have h2 := run_partIo (w := w) e _ he rfl K ys i (h i (by simp)).2
    have h3 := run_eqItemsIo d e K K' xs ys he is (fun j hj => h j (by simp [hj]))
    have h4 := run_equalIn_int (P := P) w d e K K' (at0 xs i) (at0 ys i) he
    simp only [Op.eqItems, Sem.run_bind, Nat.mul_one, h1, h2, h4, Result.andThen_ok]
    by_cases hb : at0 xs i = at0 ys i
    · simp [hb, h3]
    · simp [hb]
theorem run_eqIo (t e : TypeId) (n : Nat) (hu : P.underlying t = some (.array n e)) (K K' : IntKind) (he : P.underlying e = some (.int K')) (hc : (P.info? e).map (·.size) = some 1) (hg : P.eqGuardType P.depth t = false) (x y : Operand) (xs ys : List Int) (hx : xs.length = n) (hy : ys.length = n) :
    (do eqGuard .eql t x y (aggI K xs) (aggI K ys); binOp .eql t (aggI K xs) (aggI K ys) : Sem Value).run P w = .ok (.bool (decide (xs = ys))) w := by
  cases hi : P.info? e with
  | none => rw [hi] at hc; cases hc
  | some i =>
    have hcells : P.cellsOf e = 1 := by simp [Program.cellsOf, hc]
    have hq : (eqGuard .eql t x y (aggI K xs) (aggI K ys)).run P w = .ok () w := by
      simp [eqGuard, aggI, Sem.run_bind, hg]
    have hall : (∀ i ∈ List.range n, at0 xs i = at0 ys i) ↔ xs = ys := by
      constructor
      · intro h
        exact eq_of_all (by omega) fun j hj => h j (List.mem_range.2 (by omega))
      · rintro rfl _ _; rfl
    simp only [Sem.run_bind, hq, Result.andThen_ok]
    unfold aggI
    rw [run_eql_struct, show (10000 : Nat) = 9999 + 1 from rfl, run_equalIn_array w 9999 _ _ hu hi, hcells, show (9999 : Nat) = 9998 + 1 from rfl, run_eqItemsIo 9998 e K K' xs ys he (List.range n) (fun i hi => by have := List.mem_range.1 hi; omega)]
    simp only [Result.andThen_ok]
    congr 2
    exact decide_eq_decide.2 hall
theorem Does.eqlI (hw : Region.wanted o (yielded ops a.tmps) = true) (t t' e : TypeId) (x y : Operand) (ho : o.op = .binOp .eql t x y t') (n : Nat) (hu : P.underlying t = some (.array n e)) (K K' : IntKind) (he : P.underlying e = some (.int K')) (hc : (P.info? e).map (·.size) = some 1) (hg : P.eqGuardType P.depth t = false)
    (xs ys : List Int) (hx : a.eval x = aggI K xs) (hy : a.eval y = aggI K ys) (hxl : xs.length = n) (hyl : ys.length = n) (b : Bool) (hb : decide (xs = ys) = b) (hR : R (.bool b) w) : Does P ops o a w R := by
  refine Does.pure hw (.bool b) ?_ hR
  unfold execOp
  have h := run_eqIo (w := w) t e n hu K K' he hc hg x y xs ys hxl hyl
  simp only [ho, hx, hy, Sem.run_bind] at h ⊢
  rw [h, hb]
  rfl
theorem wpList_eqlI {rest : List Oper} {Q : Exit → Act → World → Prop} (hgd : o.guard = none) (t t' e : TypeId) (x y : Operand) (ho : o.op = .binOp .eql t x y t') (n : Nat) (hu : P.underlying t = some (.array n e)) (K K' : IntKind) (he : P.underlying e = some (.int K')) (hc : (P.info? e).map (·.size) = some 1) (hg : P.eqGuardType P.depth t = false)
    (xs ys : List Int) (hx : a.eval x = aggI K xs) (hy : a.eval y = aggI K ys) (hxl : xs.length = n) (hyl : ys.length = n) (b : Bool) (hb : decide (xs = ys) = b) (h : wpList P ops Q rest (a.put o.dst (.bool b)) w) : wpList P ops Q (o :: rest) a w := by
  refine wpList_plain hgd fun KK hK => ?_
  unfold Oper.wp execOp
  have h' := run_eqIo (w := w) t e n hu K K' he hc hg x y xs ys hxl hyl
  simp only [ho, hx, hy, Sem.run_bind] at h' ⊢
  rw [h', hb]
  exact hK _ _ h
/-- An array that is written out. -/
theorem Does.buildI (hw : Region.wanted o (yielded ops a.tmps) = true) (t : TypeId) (parts : Array (Nat × Operand)) (ho : o.op = .build t parts) (K : IntKind) (zs : List Int)
    (ps : List (Nat × Value)) (hf : P.built t ps = some (zs.map (Value.int K)).toArray) (hps : parts.toList.map (fun (i, x) => (i, a.eval x)) = ps) (hR : R (aggI K zs) w) : Does P ops o a w R := by
  have hf : P.built t (parts.map fun (i, x) => (i, a.eval x)).toList = some (zs.map (Value.int K)).toArray := by rw [Array.toList_map, hps]; exact hf
  clear hps
  refine Does.pure hw _ ?_ hR
  unfold execOp
  simp only [ho, Sem.run_bind, run_build w t _ _ hf, Result.andThen_ok]
  rfl
theorem wpList_buildI {rest : List Oper} {Q : Exit → Act → World → Prop} (hgd : o.guard = none) (t : TypeId) (parts : Array (Nat × Operand)) (ho : o.op = .build t parts) (K : IntKind) (zs : List Int)
    (ps : List (Nat × Value)) (hf : P.built t ps = some (zs.map (Value.int K)).toArray) (hps : parts.toList.map (fun (i, x) => (i, a.eval x)) = ps) (h : wpList P ops Q rest (a.put o.dst (aggI K zs)) w) : wpList P ops Q (o :: rest) a w := by
  have hf : P.built t (parts.map fun (i, x) => (i, a.eval x)).toList = some (zs.map (Value.int K)).toArray := by rw [Array.toList_map, hps]; exact hf
  clear hps
  refine wpList_plain hgd fun KK hK => ?_
  unfold Oper.wp execOp
  simp only [ho, Sem.run_bind, run_build w t _ _ hf, Result.andThen_ok]
  exact hK _ _ h
/-- A new variable, and what it holds, in one step. -/
theorem wpList_newI {o1 o2 : Oper} {rest : List Oper} {Q : Exit → Act → World → Prop} (hg1 : o1.guard = none) (hg2 : o2.guard = none) (t : TypeId) (d : Tmp) (y : Operand) (ho1 : o1.op = .alloc t) (ho2 : o2.op = .store t (.tmp d) y) (hd1 : o1.dst = some d) (hd2 : o2.dst = none)
    (K : IntKind) (n : Nat) (hz : (P.info? t).bind (·.zero) = some (.agg (Array.replicate n (Value.int K 0)))) (hi : (P.info? t).map (·.size) = some n) (hd : d < a.tmps.size)
    (ys : List Int) (hyd : y ≠ .tmp d) (hy : a.eval y = aggI K ys) (hl : ys.length = n)
    (h : ∀ w' B, w.heap.size ≤ B → B < w'.heap.size → Arr K w' B ys → Below w.heap.size w w' → wpList P ops Q rest (a.put (some d) (.pointer (some ⟨B, 0, none⟩))) w') : wpList P ops Q (o1 :: o2 :: rest) a w := by
  refine wpList_allocI hg1 t ho1 K n hz fun w1 A1 s1 b1 => ?_
  rw [hd1]
  have he : (a.put (some d) (.pointer (some ⟨w.heap.size, 0, none⟩))).eval (.tmp d) = .pointer (some ⟨w.heap.size, 0, none⟩) := by
    simp only [Act.eval, Array.getD_eq_getD_getElem?, put_get]
    simp [hd]
  refine wpList_storeI hg2 t (.tmp d) y ho2 n hi w.heap.size he K (List.replicate n 0) ys (by rw [Act.eval_put (fun e he => by cases he; exact hyd)]; exact hy) A1 (by simp) hl fun A2 => ?_
  rw [hd2]
  have hb := Below.setRow b1 (Nat.le_refl _) (ys.map (Value.int K)).toArray
  have hsz : w.heap.size < (w1.setRow w.heap.size (ys.map (Value.int K)).toArray).heap.size := by simpa [World.setRow] using s1
  exact h _ w.heap.size (Nat.le_refl _) hsz A2 hb
/-- A slice of the whole of an array. -/
theorem wpList_sliceI {rest : List Oper} {Q : Exit → Act → World → Prop} (hgd : o.guard = none) (t : TypeId) (x : Operand) (ho : o.op = .slice t x none none none) (v : Value) (hx : (execOp a.eval o).run P w = .ok (.value v) w) (h : wpList P ops Q rest (a.put o.dst v) w) : wpList P ops Q (o :: rest) a w := by
  refine wpList_plain hgd fun KK hK => ?_
  unfold Oper.wp
  rw [hx]
  exact hK _ _ h
end
end Go.Proofs.YtohnicmacmkapaaDoor
namespace Go.Proofs.YtohnicmacmkapaaDoor
open Go.RowKit
set_option linter.unusedVariables false

/-- So many numbers from a place on. -/
def sl (zs : List Int) (o n : Nat) : List Int := (zs.drop o).take n
/-- Numbers with others in the stead of those from a place on. -/
def pt (zs : List Int) (o : Nat) (ys : List Int) : List Int := zs.take o ++ ys ++ zs.drop (o + ys.length)
theorem sl_length {zs : List Int} {o n : Nat} (h : o + n ≤ zs.length) : (sl zs o n).length = n := by simp [sl]; omega
theorem pt_length {zs ys : List Int} {o : Nat} (h : o + ys.length ≤ zs.length) : (pt zs o ys).length = zs.length := by simp [pt]; omega
theorem sl_all {zs : List Int} {n : Nat} (h : zs.length = n) : sl zs 0 n = zs := by simp [sl, ← h]
theorem sl_sl (zs : List Int) (o n a b : Nat) (h : a + b ≤ n) : sl (sl zs o n) a b = sl zs (o + a) b := by
  unfold sl
  rw [List.drop_take, List.drop_drop, List.take_take, Nat.min_eq_left (by omega)]
theorem sl_at (zs : List Int) (o n k : Nat) (h : k < n) : at0 (sl zs o n) k = at0 zs (o + k) := by
  simp [at0, sl, List.getElem?_drop, h]
theorem sl_pt_same {zs ys : List Int} {o n : Nat} (h : o + n ≤ zs.length) (hy : ys.length = n) : sl (pt zs o ys) o n = ys := by
  unfold sl pt
  subst hy
  rw [List.append_assoc, List.drop_append_of_le_length (by simp; omega), show (List.take o zs).drop o = [] by simp, List.nil_append, List.take_append_of_le_length (Nat.le_refl _), List.take_length]
theorem sl_pt_before {zs ys : List Int} {o a b : Nat} (h : o + ys.length ≤ zs.length) (hab : a + b ≤ o) : sl (pt zs o ys) a b = sl zs a b := by
  apply eq_of_all
  · rw [sl_length (by rw [pt_length h]; omega), sl_length (by omega)]
  · intro j hj
    rw [sl_length (by rw [pt_length h]; omega)] at hj
    rw [sl_at _ _ _ _ hj, sl_at _ _ _ _ hj]
    simp only [at0, pt, List.append_assoc]
    rw [List.getElem?_append_left (by simp; omega), List.getElem?_take, if_pos (by omega)]
theorem sl_pt_behind {zs ys : List Int} {o a b : Nat} (h : o + ys.length ≤ zs.length) (hab : o + ys.length ≤ a) (hl : a + b ≤ zs.length) : sl (pt zs o ys) a b = sl zs a b := by
  apply eq_of_all
  · rw [sl_length (by rw [pt_length h]; omega), sl_length (by omega)]
  · intro j hj
    rw [sl_length (by rw [pt_length h]; omega)] at hj
    rw [sl_at _ _ _ _ hj, sl_at _ _ _ _ hj]
    simp only [at0, pt]
    rw [List.getElem?_append_right (by simp; omega), List.getElem?_drop]
    congr 2
    simp
    omega
/-- A struct's field lies so many cells behind its beginning. -/
def fieldB (P : Program) (s : TypeId) (f off : Nat) : Bool := match P.underlying s with
  | some (.struct fs) => match fs[f]? with
    | some fd => fd.offset == off && (match P.info? fd.type with | some i => i.size != 0 | none => false)
    | none => false
  | _ => false
section
variable {P : Program} {ops : Array Oper} {o : Oper} {a : Act} {w : World} {R : Value → World → Prop}
theorem addr_mid (b o j : Nat) : (⟨b, o, none⟩ : Addr).add j = ⟨b, o + j, none⟩ := Go.Addr.add_mid b o j
theorem run_fieldB {s : TypeId} {f off : Nat} (hf : fieldB P s f off = true) (B o0 : Nat) : (Instr.fieldAt s (.pointer (some ⟨B, o0, none⟩)) f).run P w = .ok (.pointer (some ⟨B, o0 + off, none⟩)) w := by
  unfold fieldB at hf
  cases hu : P.underlying s with
  | none => rw [hu] at hf; cases hf
  | some d =>
    rw [hu] at hf
    cases d <;> simp only [Bool.false_eq_true] at hf
    rename_i fs
    cases hfs : fs[f]? with
    | none => rw [hfs] at hf; cases hf
    | some fd =>
      rw [hfs] at hf
      simp only [Bool.and_eq_true, beq_iff_eq] at hf
      obtain ⟨h1, h2⟩ := hf
      subst h1
      cases hi : P.info? fd.type with
      | none => rw [hi] at h2; cases h2
      | some i =>
        rw [hi] at h2
        have hne : i.size ≠ 0 := by simpa using h2
        simp [Instr.fieldAt, fieldPlace, Instr.sureAddr, Sem.run_bind, run_underlying hu w, hfs, sizeOf, typeInfo, hi, hne, addr_mid]
theorem Does.fieldA (hw : Region.wanted o (yielded ops a.tmps) = true) (s : TypeId) (x : Operand) (f : Nat) (ho : o.op = .fieldAddr s x f) {off : Nat} (hf : fieldB P s f off = true) (B o0 : Nat) (hx : a.eval x = .pointer (some ⟨B, o0, none⟩)) {o1 : Nat} (h1 : o0 + off = o1)
    (hR : R (.pointer (some ⟨B, o1, none⟩)) w) : Does P ops o a w R :=
  Does.pure hw _ (by unfold execOp; simp only [ho, hx, Sem.run_bind, run_fieldB hf, Result.andThen_ok, h1]; rfl) hR
theorem run_indexB {t e : TypeId} {n s : Nat} (hu : P.underlying t = some (.array n e)) (hs : (P.info? e).map (·.size) = some s) (B o0 : Nat) (k : IntKind) (i : Int) (h0 : 0 ≤ i) (h1 : i < n) :
    (Instr.indexAt t (.pointer (some ⟨B, o0, none⟩)) (.int k i)).run P w = .ok (.pointer (some ⟨B, o0 + i.toNat * s, none⟩)) w := by
  cases hi : P.info? e with
  | none => rw [hi] at hs; cases hs
  | some q =>
    have hq : q.size = s := by simpa [hi] using hs
    simp [Instr.indexAt, asIntOf, Instr.sureAddr, Sem.run_bind, run_underlying hu w, h0, h1, sizeOf, typeInfo, hi, hq, addr_mid]
theorem Does.indexA (hw : Region.wanted o (yielded ops a.tmps) = true) (t : TypeId) (x y : Operand) (ho : o.op = .indexAddr t x y) {e : TypeId} {n s : Nat} (hu : P.underlying t = some (.array n e)) (hs : (P.info? e).map (·.size) = some s) (B o0 : Nat) (hx : a.eval x = .pointer (some ⟨B, o0, none⟩))
    (k : IntKind) (i : Int) (hy : a.eval y = .int k i) (h0 : 0 ≤ i) (h1 : i < n) {o1 : Nat} (h2 : o0 + i.toNat * s = o1) (hR : R (.pointer (some ⟨B, o1, none⟩)) w) : Does P ops o a w R :=
  Does.pure hw _ (by unfold execOp; simp only [ho, hx, hy, Sem.run_bind, run_indexB hu hs B o0 k i h0 h1, Result.andThen_ok, h2]; rfl) hR
/-- A row that may be read. -/
def Rd (K : IntKind) (w : World) (B : Nat) (zs : List Int) : Prop := ∀ k, k < zs.length → w.cell? ⟨B, k, none⟩ = some (.int K (at0 zs k))
theorem Rd.below {K : IntKind} {w w' : World} {B : Nat} {zs : List Int} (h : Rd K w B zs) (hb : Below w.heap.size w w') : Rd K w' B zs := fun k hk => Go.Lib.Below.cellOf hb (h k hk) (Nat.le_refl _)
theorem Rd.range {K : IntKind} {B : Nat} {zs : List Int} (h : Rd K w B zs) {o0 n : Nat} (hl : o0 + n ≤ zs.length) : w.rangeAt B o0 ((sl zs o0 n).map (Value.int K)) := by
  intro j v hj
  rw [List.getElem?_map] at hj
  cases hq : (sl zs o0 n)[j]? with
  | none => rw [hq] at hj; cases hj
  | some x =>
    rw [hq] at hj
    have hjl : j < n := by
      have := (List.getElem?_eq_some_iff.1 hq).1
      rw [sl_length hl] at this
      exact this
    rw [h (o0 + j) (by omega), ← hj]
    have h2 := sl_at zs o0 n j hjl
    simp only [at0, hq, Option.getD_some] at h2
    rw [h2]
    simp [at0]
theorem Does.loadG (hw : Region.wanted o (yielded ops a.tmps) = true) (ty : TypeId) (x : Operand) (ho : o.op = .load ty x) (n : Nat) (d : TypeDesc) (hu : P.underlying ty = some d) (hd : (match d with | .struct _ | .array _ _ => true | _ => false) = true) (hi : (P.info? ty).map (·.size) = some n)
    (B o0 : Nat) (hx : a.eval x = .pointer (some ⟨B, o0, none⟩)) (K : IntKind) (zs : List Int) (hz : Rd K w B zs) (hl : o0 + n ≤ zs.length) {v : List Int} (hv : sl zs o0 n = v) (hR : R (aggI K v) w) : Does P ops o a w R :=
  Does.of_wp hw fun KK hK => by
    subst hv
    refine wp_load_mid ty x ho B o0 hx _ d (hz.range hl) hu (by cases d <;> simp_all) (by rw [hi]; simp [sl_length hl]) ?_
    exact hK _ _ hR
theorem Arr.range {K : IntKind} {B : Nat} {zs : List Int} (h : Arr K w B zs) {o0 n : Nat} (hl : o0 + n ≤ zs.length) : w.rangeAt B o0 ((sl zs o0 n).map (Value.int K)) := by
  intro j v hj
  rw [List.getElem?_map] at hj
  cases hq : (sl zs o0 n)[j]? with
  | none => rw [hq] at hj; cases hj
  | some x =>
    rw [hq] at hj
    have hjl : j < n := by
      have := (List.getElem?_eq_some_iff.1 hq).1
      rw [sl_length hl] at this
      exact this
    have hc := h.cell (k := o0 + j) (by omega)
    rw [hc, ← hj]
    have h2 := sl_at zs o0 n j hjl
    simp only [at0, hq, Option.getD_some] at h2
    rw [h2]
    simp [at0]
theorem Does.loadM (hw : Region.wanted o (yielded ops a.tmps) = true) (ty : TypeId) (x : Operand) (ho : o.op = .load ty x) (n : Nat) (d : TypeDesc) (hu : P.underlying ty = some d) (hd : (match d with | .struct _ | .array _ _ => true | _ => false) = true) (hi : (P.info? ty).map (·.size) = some n)
    (B o0 : Nat) (hx : a.eval x = .pointer (some ⟨B, o0, none⟩)) (K : IntKind) (zs : List Int) (hz : Arr K w B zs) (hl : o0 + n ≤ zs.length) {v : List Int} (hv : sl zs o0 n = v) (hR : R (aggI K v) w) : Does P ops o a w R :=
  Does.of_wp hw fun KK hK => by
    subst hv
    refine wp_load_mid ty x ho B o0 hx _ d (hz.range hl) hu (by cases d <;> simp_all) (by rw [hi]; simp [sl_length hl]) ?_
    exact hK _ _ hR
theorem Does.loadC (hw : Region.wanted o (yielded ops a.tmps) = true) (ty : TypeId) (x : Operand) (ho : o.op = .load ty x) (d : TypeDesc) (hu : P.underlying ty = some d) (hd : (match d with | .struct _ | .array _ _ => true | _ => false) = false)
    (B o0 : Nat) (hx : a.eval x = .pointer (some ⟨B, o0, none⟩)) (K : IntKind) (zs : List Int) (hz : Arr K w B zs) (hl : o0 < zs.length) {v : Int} (hv : at0 zs o0 = v) (hR : R (.int K v) w) : Does P ops o a w R := by
  refine Does.pure hw _ ?_ hR
  subst hv
  have hc := hz.cell (k := o0) hl
  have hagg : (isAgg ty).run P w = .ok false w := by
    unfold isAgg
    rw [Sem.run_bind, run_underlying hu w]
    cases d <;> simp_all
  unfold execOp
  simp [ho, hx, Sem.run_bind, Instr.loadAt, Instr.sureAddr, loadVar, hagg, hc]
theorem Does.storeM (hw : Region.wanted o (yielded ops a.tmps) = true) (ty : TypeId) (x y : Operand) (ho : o.op = .store ty x y) (n : Nat) (hi : (P.info? ty).map (·.size) = some n)
    (B o0 : Nat) (hx : a.eval x = .pointer (some ⟨B, o0, none⟩)) (K : IntKind) (zs ys : List Int) (hy : a.eval y = aggI K ys) (hz : Arr K w B zs) (hm : ys.length = n) (hl : o0 + n ≤ zs.length)
    (hR : Arr K (w.setRow B ((pt zs o0 ys).map (Value.int K)).toArray) B (pt zs o0 ys) → R undef (w.setRow B ((pt zs o0 ys).map (Value.int K)).toArray)) : Does P ops o a w R :=
  Does.of_wp hw fun KK hK => by
    have h' := hR (hz.setRow _)
    obtain ⟨t, hz⟩ := hz
    have hst := run_storeCells_at P B o0 t (ys.map (Value.int K)) 0 _ w hz (by simp; omega) (fun v hv => by obtain ⟨z, -, rfl⟩ := List.mem_map.1 hv; rfl)
    cases hq : P.info? ty with
    | none => rw [hq] at hi; cases hi
    | some q =>
      have hs : q.size = n := by simpa [hq] using hi
      have e : (List.take (o0 + 0) (zs.map (Value.int K)) ++ ys.map (Value.int K) ++ List.drop (o0 + 0 + (ys.map (Value.int K)).length) (zs.map (Value.int K))) = (pt zs o0 ys).map (Value.int K) := by
        simp [pt, List.map_take, List.map_drop]
      rw [e] at hst
      unfold Oper.wp execOp
      simp [ho, hx, hy, aggI, Sem.run_bind, Instr.storeAt, Instr.sureAddr, storeVar, sizeOf, typeInfo, hq, hs, hm, Value.cells, hst]
      exact hK _ _ h'
theorem wp_world {c : Code} {Q : Exit → Act → World → Prop} (h : ∀ W, W = w → Code.wp P c Q a W) : Code.wp P c Q a w := h w rfl
theorem results_cellM {fn : Func} {p : Tmp} {ty : TypeId} (h : fn.results = #[.cell p ty]) (tmps : Array Value) (n : Nat) (d : TypeDesc) (hu : P.underlying ty = some d) (hd : (match d with | .struct _ | .array _ _ => true | _ => false) = true) (hi : (P.info? ty).map (·.size) = some n)
    (B : Nat) (hp : tmps.getD p undef = .pointer (some ⟨B, 0, none⟩)) (K : IntKind) (zs : List Int) (hz : Arr K w B zs) (hn : zs.length = n) : (results fn tmps).run P w = .ok (aggI K zs) w := by
  obtain ⟨t, hz⟩ := hz
  exact results_cell_row h tmps w B t _ _ _ hp hz hu hd (by rw [hi]; simp [hn])
theorem results_cell_tmpM {fn : Func} {p t1 : Tmp} {ty : TypeId} (h : fn.results = #[.cell p ty, .tmp t1]) (tmps : Array Value) (n : Nat) (d : TypeDesc) (hu : P.underlying ty = some d) (hd : (match d with | .struct _ | .array _ _ => true | _ => false) = true) (hi : (P.info? ty).map (·.size) = some n)
    (B : Nat) (hp : tmps.getD p undef = .pointer (some ⟨B, 0, none⟩)) (K : IntKind) (zs : List Int) (hz : Arr K w B zs) (hn : zs.length = n) : (results fn tmps).run P w = .ok (.tuple #[aggI K zs, tmps.getD t1 undef]) w := by
  obtain ⟨t, hz⟩ := hz
  have hp' : tmps[p]?.getD undef = .pointer (some ⟨B, 0, none⟩) := by simpa using hp
  have hl := run_loadVar_row (P := P) w B t ty _ _ _ hz hu hd (by rw [hi]; simp [hn])
  simp [results, h, hp', asAddr, hl, aggI]
theorem wpList_val' {rest : List Oper} {Q : Exit → Act → World → Prop} {v : Value} (hd : ∀ R : Value → World → Prop, R v w → Does P ops o a w R) (h : wpList P ops Q rest (a.put o.dst v) w) : wpList P ops Q (o :: rest) a w :=
  wpList_does (hd (fun v' w' => v' = v ∧ w' = w) ⟨rfl, rfl⟩) fun v' w' h' => by rw [h'.1, h'.2]; exact h
end
end Go.Proofs.YtohnicmacmkapaaDoor
namespace Go.Proofs.YtohnicmacmkapaaDoor
open Go.RowKit
set_option linter.unusedVariables false
section
variable {P : Program} {ops : Array Oper} {o : Oper} {a : Act} {w : World} {R : Value → World → Prop}
theorem run_indexS {t e : TypeId} {n c s : Nat} (hu : P.underlying t = some (.slice e)) (hs : (P.info? e).map (·.size) = some s) (B o0 : Nat) (k : IntKind) (i : Int) (h0 : 0 ≤ i) (h1 : i < n) :
    (Instr.indexAt t (.slice (some ⟨B, o0, none⟩) n c) (.int k i)).run P w = .ok (.pointer (some ⟨B, o0 + i.toNat * s, none⟩)) w := by
  cases hi : P.info? e with
  | none => rw [hi] at hs; cases hs
  | some q =>
    have hq : q.size = s := by simpa [hi] using hs
    simp [Instr.indexAt, asIntOf, Sem.run_bind, run_underlying hu w, h0, h1, sizeOf, typeInfo, hi, hq, addr_mid]
theorem Does.indexS (hw : Region.wanted o (yielded ops a.tmps) = true) (t : TypeId) (x y : Operand) (ho : o.op = .indexAddr t x y) {e : TypeId} {n c s : Nat} (hu : P.underlying t = some (.slice e)) (hs : (P.info? e).map (·.size) = some s) (B o0 : Nat) (hx : a.eval x = .slice (some ⟨B, o0, none⟩) n c)
    (k : IntKind) (i : Int) (hy : a.eval y = .int k i) (h0 : 0 ≤ i) (h1 : i < n) {o1 : Nat} (h2 : o0 + i.toNat * s = o1) (hR : R (.pointer (some ⟨B, o1, none⟩)) w) : Does P ops o a w R :=
  Does.pure hw _ (by unfold execOp; simp only [ho, hx, hy, Sem.run_bind, run_indexS hu hs B o0 k i h0 h1, Result.andThen_ok, h2]; rfl) hR
theorem madeCells_zero (K : IntKind) (n m : Nat) : madeCells (Array.replicate n (Value.int K 0)) m = if n = 0 then madeCells #[] m else Array.replicate m (Value.int K 0) := by
  by_cases hn : n = 0
  · subst hn; simp
  · rw [if_neg hn]
    apply Array.ext
    · simp [madeCells]
    · intro i h1 h2
      simp [madeCells]
      have : i % n < n := Nat.mod_lt _ (by omega)
      simp [this]
theorem wpList_makeI {rest : List Oper} {Q : Exit → Act → World → Prop} (hgd : o.guard = none) (t e : TypeId) (x y : Operand) (ho : o.op = .makeSlice t x y) (hu : P.underlying t = some (.slice e)) (K : IntKind) (s bytes : Nat) (hz : (P.info? e).bind (·.zero) = some (.agg (Array.replicate s (Value.int K 0)))) (hs : (P.info? e).map (·.size) = some s) (hb : (P.info? e).map (·.bytes) = some bytes)
    (hs0 : s ≠ 0) (n : Nat) (hx : a.eval x = .int .i64 n) (hy : a.eval y = .int .i64 n) (hn : (bytes : Int) * n ≤ 281474976710656) (hn2 : (n : Int) ≤ 9223372036854775807)
    (h : ∀ w1, Arr K w1 w.heap.size (List.replicate (n * s) 0) → w.heap.size < w1.heap.size → Below w.heap.size w w1 → wpList P ops Q rest (a.put o.dst (.slice (some ⟨w.heap.size, 0, none⟩) n n)) w1) : wpList P ops Q (o :: rest) a w := by
  cases hi : P.info? e with
  | none => rw [hi] at hz; cases hz
  | some i =>
    rw [hi] at hz hs hb
    have hz' : i.zero = some (.agg (Array.replicate s (Value.int K 0))) := hz
    have hs' : i.size = s := by simpa using hs
    have hb' : i.bytes = bytes := by simpa using hb
    refine wpList_plain hgd fun KK hK => ?_
    have hr := run_make w t e i _ hu hi hz' .i64 .i64 (n : Int) (n : Int) (by omega) (Int.le_refl _) (by rw [hb']; exact hn) hn2
    unfold Oper.wp execOp
    simp only [ho, hx, hy, Sem.run_bind, hr, Int.toNat_natCast]
    refine hK _ _ (h _ ⟨e, ?_⟩ (Array.getElem?_eq_some_iff.1 (heap_alloc_new w _)).1 ((Below.refl _ _).alloc (Nat.le_refl _) _))
    rw [heap_alloc_new]
    simp only [Value.cells]
    rw [madeCells_zero, if_neg hs0, hs']
    simp
end
end Go.Proofs.YtohnicmacmkapaaDoor
namespace Go.Proofs.YtohnicmacmkapaaDoor
open Go.RowKit
set_option linter.unusedVariables false
set_option maxRecDepth 8000

section
variable {P : Program} {ops : Array Oper} {o : Oper} {rest : List Oper} {a : Act} {w : World} {Q : Exit → Act → World → Prop}
theorem wpList_copyT (hgd : o.guard = none) (d s : Operand) (t t' : TypeId) (ho : o.op = .call { callee := .builtin .copy, args := #[d, s], argTypes := #[t, t'] })
    (elem : TypeId) (hu : P.underlying t = some (.slice elem)) (hsz : (P.info? elem).map (·.size) = some 1) (B B' c c' n m : Nat) (hd : a.eval d = .slice (some ⟨B, 0, none⟩) n c) (hs : a.eval s = .slice (some ⟨B', 0, none⟩) m c') (K : IntKind) (zs ys : List Int)
    (hz : Arr K w B zs) (hy : ∀ q, q < m → w.cell? ⟨B', q, none⟩ = some (.int K (at0 ys q))) (hn : zs.length = n) (hm : ys.length = m) (hle : m ≤ n)
    (h : Arr K (w.setRow B ((ys.take m ++ zs.drop m).map (Value.int K)).toArray) B (ys.take m ++ zs.drop m) → wpList P ops Q rest (a.put o.dst (goInt m)) (w.setRow B ((ys.take m ++ zs.drop m).map (Value.int K)).toArray)) : wpList P ops Q (o :: rest) a w := by
  subst hn
  have h' := h (hz.setRow _)
  refine wpList_plain hgd fun KK hK => ?_
  have hlt : (ys.take m).length = m := by simp [hm]
  obtain ⟨tz, hz⟩ := hz
  have hcell : ∀ j v, ((ys.take m).map (Value.int K))[j]? = some v → w.cell? ((⟨B', 0, none⟩ : Addr).add j) = some v := by
    intro j v hj
    have hjm : j < m := by
      have := (List.getElem?_eq_some_iff.1 hj).1
      simpa [hm] using this
    have hc := hy j hjm
    rw [Addr.add_lit, Nat.zero_add, hc, ← hj]
    simp [hjm, at0, show j < ys.length by omega]
  have hr := run_copy_row (P := P) w t t' o.type elem B 0 zs.length c ⟨B', 0, none⟩ m c' _ tz ((ys.take m).map (Value.int K)) hu hsz hz (by rw [List.length_map, hlt]; exact (Nat.min_eq_left hle).symm) hcell (by simp only [List.size_toArray, List.length_map, hlt]; omega) (by intro v hv; obtain ⟨z, -, rfl⟩ := List.mem_map.1 hv; rfl)
  unfold Oper.wp execOp
  simp only [ho, resolve, invoke, builtin, Sem.run_bind, Sem.run_pure, Result.andThen_ok, List.map_toArray, List.map_cons, List.map_nil, hd, hs, hr]
  have e : (List.take 0 (zs.map (Value.int K)) ++ (ys.take m).map (Value.int K) ++ List.drop (0 + ((ys.take m).map (Value.int K)).length) (zs.map (Value.int K))) = (ys.take m ++ zs.drop m).map (Value.int K) := by
    rw [List.take_zero, List.nil_append, Nat.zero_add, List.length_map, hlt, List.map_append, List.map_drop]
  rw [e, List.length_map, hlt]
  exact hK _ _ h'
theorem wpList_makeB (hgd : o.guard = none) (t e : TypeId) (x y : Operand) (ho : o.op = .makeSlice t x y) (hu : P.underlying t = some (.slice e)) (K : IntKind) (hz : (P.info? e).bind (·.zero) = some (Value.int K 0)) (hs : (P.info? e).map (·.size) = some 1) (hb : (P.info? e).map (·.bytes) = some 1)
    (l n : Nat) (hx : a.eval x = .int .i64 l) (hy : a.eval y = .int .i64 n) (hle : l ≤ n) (hn : (n : Int) ≤ 281474976710656)
    (h : ∀ w1, Arr K w1 w.heap.size (List.replicate n 0) → w.heap.size < w1.heap.size → Below w.heap.size w w1 → wpList P ops Q rest (a.put o.dst (.slice (some ⟨w.heap.size, 0, none⟩) l n)) w1) : wpList P ops Q (o :: rest) a w := by
  cases hi : P.info? e with
  | none => rw [hi] at hz; cases hz
  | some i =>
    rw [hi] at hz hs hb
    have hz' : i.zero = some (Value.int K 0) := hz
    have hs' : i.size = 1 := by simpa using hs
    have hb' : i.bytes = 1 := by simpa using hb
    refine wpList_plain hgd fun KK hK => ?_
    have hr := run_make w t e i _ hu hi hz' .i64 .i64 (l : Int) (n : Int) (by omega) (by omega) (by rw [hb']; omega) (by omega)
    have hm : madeCells (Value.int K 0).cells (n * 1) = ((List.replicate n (0 : Int)).map (Value.int K)).toArray := by
      have h1 := madeCells_zero K 1 (n * 1)
      rw [if_neg (by decide)] at h1
      rw [show (Value.int K 0).cells = Array.replicate 1 (Value.int K 0) from rfl, h1]
      simp
    unfold Oper.wp execOp
    simp only [ho, hx, hy, Sem.run_bind, hr, Int.toNat_natCast, hs', hm]
    refine hK _ _ (h _ ⟨e, ?_⟩ (Array.getElem?_eq_some_iff.1 (heap_alloc_new w _)).1 ((Below.refl _ _).alloc (Nat.le_refl _) _))
    rw [heap_alloc_new]
end
theorem grown_then {a b c : World} {row : Option Nat} (h : a.grownBy b row) (k : b.grownBy c row) : a.grownBy c row :=
  ⟨k.os.trans h.os, k.tape.trans h.tape, k.output.trans h.output, Nat.le_trans h.size k.size, fun i hi hne => (k.block i (Nat.lt_of_lt_of_le hi h.size) hne).trans (h.block i hi hne)⟩
theorem arr_but {K : IntKind} {w w' : World} {B : Nat} {zs : List Int} (h : Arr K w B zs) {row : Option Nat} (hb : w.grownBy w' row) (hr : some B ≠ row) : Arr K w' B zs := by
  have hl := h.lt
  obtain ⟨t, h⟩ := h
  exact ⟨t, by rw [hb.block B hl hr]; exact h⟩
theorem grown_new {w w' : World} {B : Nat} (h : w.grownBy w' (some B)) (p : Addr) (v : Value) (hp : w.heap.size ≤ p.block) : w.grownBy (w'.setCell p v) (some B) := by
  refine ⟨h.os, h.tape, h.output, ?_, fun k hk hne => ?_⟩
  · have := h.size
    simpa [World.setCell] using this
  · rw [heap_setCell_other w' p k v (by omega)]
    exact h.block k hk hne
/-- The number of bits, laid behind all, the highest byte first. -/
def padS (p : List Int) (tot : Int) : Nat → List Int
  | 0 => p
  | k + 1 => (padS p tot k).set (p.length - 1 - k) (tot * 8 / 2 ^ (8 * k) % 256)
theorem padS_len (p : List Int) (tot : Int) : ∀ k, (padS p tot k).length = p.length
  | 0 => rfl
  | k + 1 => by simp [padS, padS_len p tot k]
theorem padS_bytes {p : List Int} (h : Bytes p) (tot : Int) : ∀ k, Bytes (padS p tot k)
  | 0 => h
  | k + 1 => fun x hx => by
    rcases List.mem_or_eq_of_mem_set hx with h' | rfl
    · exact padS_bytes h tot k x h'
    · omega
/-- How many bytes so many have when they are padded. -/
def padN64 (n : Nat) : Nat := (n + 1 + 16 + 128 - 1) / 128 * 128
theorem padN64_eq (n : Nat) (h : n < 128) : padded (n : Int) 64 = (padN64 n : Nat) := by
  unfold padded padN64
  rw [if_neg (by omega)]
  omega
theorem padN64_le (n : Nat) (h : n < 128) : n + 16 < padN64 n ∧ padN64 n ≤ 256 ∧ padN64 n % 128 = 0 := by unfold padN64; omega
def padB64 (hl : List Int) (n : Nat) : List Int := (hl.take n ++ List.replicate (padN64 n - n) 0).set n 128
theorem padB64_len (hl : List Int) (n : Nat) (h : n < 128) (hh : hl.length = n) : (padB64 hl n).length = padN64 n := by
  have := padN64_le n h
  simp [padB64, hh]
  omega
/-- A state behind so many blocks. -/
def absorb64 (st zs : List Int) : Nat → List Int
  | 0 => st
  | k + 1 => take64 (absorb64 st zs k) ((zs.drop (k * 128)).take 128)
set_option maxHeartbeats 4000000 in
theorem last64_v (w : World) (B : Nat) (st : List Int) (hr : RS64 w B st) (hT : TabS w) (hs : 0 ≠ B) (hc : 3 ≠ B) (Bh : Nat) (hl : List Int) (n : Nat) (hA : ∀ q, q < n → w.cell? ⟨Bh, q, none⟩ = some (.int .u8 (at0 hl q))) (hll : hl.length = n) (hn : n < 128) (hby : Bytes hl) (tot : Int) (ht0 : 0 ≤ tot) (ht1 : tot < 72057594037927936) :
    Calls Tryd.prog 44 #[.pointer (some ⟨B, 0, none⟩), .slice (some ⟨Bh, 0, none⟩) n 128, .int .i64 tot] w fun e w' => (∃ v, e = .returned v) ∧ RS64 w' B (absorb64 st (padS (padB64 hl n) tot 8) (padN64 n / 128)) ∧ w.grownBy w' (some B) := by
  have hB := hr.lt
  have hwd := hr.width
  have hpn := padN64_le n hn
  have hpl := padB64_len hl n hn hll
  have hpb : Bytes (padB64 hl n) := fun x hx => by
    rcases List.mem_or_eq_of_mem_set hx with h | rfl
    · rcases List.mem_append.1 h with h | h
      · exact hby x (List.mem_of_mem_take h)
      · obtain ⟨-, rfl⟩ := List.mem_replicate.1 h; decide
    · decide
  have HP : ∀ W, Calls Tryd.prog 14 #[.int .i64 (n : Int), .int .i64 64] W fun e w' => e = .returned (.int .i64 ((padN64 n : Nat) : Int)) ∧ w' = W := fun W => by
    have h := padded_v (n : Int) 64 W (by omega) (by omega)
    rw [padN64_eq n hn] at h
    exact h
  have hp0 : (hl.take n ++ List.replicate (padN64 n - n) 0).set n 128 = padB64 hl n := rfl
  have hrd : (List.replicate (padN64 n) (0 : Int)).drop n = List.replicate (padN64 n - n) 0 := by simp
  have hla : (hl.take n ++ List.replicate (padN64 n - n) (0 : Int)).length = padN64 n := by simp [hll]; omega
  obtain ⟨q0, hq0⟩ : ∃ q, hl.take n ++ List.replicate (padN64 n - n) (0 : Int) = q := ⟨_, rfl⟩
  rw [hq0] at hp0 hla
  generalize padB64 hl n = pb at *
  generalize padN64 n = pn at *
  go_enter Tryd.func44, Tryd.ntmps44
  go_wp2_with (first
    | (go_at_call 14; (with_reducible refine (HP _).mono ?_); rintro e w1 ⟨rfl, rfl⟩)
    | (with_reducible refine at_n 17 ?_; refine wpList_makeB rfl 25 5 _ _ rfl Tryd.underlying25 .u8 (by kernel_rfl) (by kernel_rfl) (by kernel_rfl) pn pn rfl rfl (Nat.le_refl _) (by omega) ?_; intro w2 A2 s2 b2; have hr2 := hr.below b2; have hT2 := hT.below b2; have hA2 : ∀ q, q < n → w2.cell? ⟨Bh, q, none⟩ = some (.int .u8 (at0 hl q)) := fun q hq => by rw [b2.cell (World.block_lt_of_cell? _ _ (hA q hq))]; exact hA q hq)
    | (with_reducible refine at_n 20 ?_; refine wpList_copyT rfl _ _ _ _ rfl 5 Tryd.underlying25 (by kernel_rfl) w1.heap.size Bh _ _ pn n rfl rfl .u8 _ hl A2 hA2 (by simp) hll (by omega) ?_; rw [hrd, hq0]; intro A3; have c3 := A3.cell (k := n) (by omega); have f3 := A3.free (k := n) (by omega)))
  have hs2 := b2.size
  have hrA : RS64 ((w2.setRow w1.heap.size (q0.map (Value.int .u8)).toArray).setCell ⟨w1.heap.size, n, none⟩ (.int .u8 128)) B st := hr2.but (grown_set (grown_row _ _ _) _ _) (by simp; omega)
  have hTA : TabS ((w2.setRow w1.heap.size (q0.map (Value.int .u8)).toArray).setCell ⟨w1.heap.size, n, none⟩ (.int .u8 128)) := hT2.but (grown_set (grown_row _ _ _) _ _) (by have := hT.lt.1; omega) (by have := hT.lt.2; omega)
  have hgA : w1.grownBy ((w2.setRow w1.heap.size (q0.map (Value.int .u8)).toArray).setCell ⟨w1.heap.size, n, none⟩ (.int .u8 128)) (some B) := grown_below ((below_row b2 (Nat.le_refl _) _).setCell (Nat.le_refl _) _) B
  have A4 := A3.set n 128
  rw [hp0] at A4
  generalize (w2.setRow w1.heap.size (q0.map (Value.int .u8)).toArray).setCell ⟨w1.heap.size, n, none⟩ (.int .u8 128) = w4 at *
  clear hr2 hT2 hA2 A2 A3 c3 f3 hp0 hla hrd hq0 hwd HP
  go_loopw [28] (fun i wr => ∃ (k : Nat), k ≤ 8 ∧ i = .int .i64 k ∧ RS64 wr B st ∧ TabS wr ∧ Arr .u8 wr w1.heap.size (padS pb tot k) ∧ w1.grownBy wr (some B)) (fun i _ => 8 - (intOf i).toNat)
  case atStart => exact ⟨0, by omega, rfl, hrA, hTA, A4, hgA⟩
  case round =>
    clear hrA hTA A4 hgA
    obtain ⟨k, hk, rfl, hr4, hT4, A4, hg4⟩ := hrel
    have hl4 := padS_len pb tot k
    by_cases hlt : k < 8
    · have hnx : padS pb tot (k + 1) = (padS pb tot k).set (pn - 1 - k) (tot * 8 / 2 ^ (8 * k) % 256) := by rw [← hpl]; rfl
      generalize padS pb tot k = ps at *
      obtain ⟨j, e1, ej⟩ : ∃ j : Nat, (pn : Int) - 1 - (k : Int) = (j : Int) ∧ pn - 1 - k = j := ⟨pn - 1 - k, by omega, rfl⟩
      rw [ej] at hnx
      have hj : j < pn := by omega
      have hjI : (j : Int) < pn := by omega
      have cj := A4.cell (k := j) (by omega)
      have fj := A4.free (k := j) (by omega)
      replace hnx := Lib.hid hnx
      clear ej
      go_wp2
      refine ⟨⟨k + 1, by omega, by go_num, hr4.but (grown_set (World.grownBy.refl wr (some w1.heap.size)) j _) (by simp; omega), hT4.but (grown_set (World.grownBy.refl wr (some w1.heap.size)) j _) (by have := hT.lt.1; omega) (by have := hT.lt.2; omega), ?_, ?_⟩, by simp only [intOf]; omega⟩
      · rw [hnx.out]
        exact A4.set j _
      · exact grown_new hg4 _ _ (Nat.le_refl _)
    · obtain rfl : k = 8 := by omega
      have hwd := hr4.width
      have hpsb := padS_bytes hpb tot 8
      generalize hps : padS pb tot 8 = ps at *
      replace hps := Lib.hid hps
      have HBS := fun W => blockSize_v 64 W (by omega)
      obtain ⟨nb, hnb⟩ : ∃ nb, pn / 128 = nb := ⟨_, rfl⟩
      have hpnb : pn = nb * 128 := by omega
      have hps0 : ps.length = pn := by rw [hl4, hpl]
      clear hl4
      replace hnb := Lib.hid hnb
      replace hpnb := Lib.hid hpnb
      go_wp2_with (first
        | (go_at_call 35; (with_reducible refine (HBS _).mono ?_); rintro e w9 ⟨rfl, rfl⟩))
      go_loopw [6] (fun v wr => ∃ (k m o' : Nat), k ≤ nb ∧ m = pn - k * 128 ∧ (0 < m → o' = k * 128) ∧ v = .slice (some ⟨w1.heap.size, o', none⟩) m m ∧ RS64 wr B (absorb64 st ps k) ∧ TabS wr ∧ Arr .u8 wr w1.heap.size ps ∧ w1.grownBy wr (some B)) (fun v _ => match v with | .slice _ n _ => n | _ => 0)
      case atStart => exact ⟨0, pn, 0, by omega, by omega, fun _ => by omega, rfl, hr4, hT4, A4, hg4⟩
      case round =>
        clear hr4 hT4 A4 hg4 hwd
        obtain ⟨k, m, o', hk, hm, ho', rfl, hr4, hT4, A4, hg4⟩ := hrel
        have hpn2 := hpnb.out
        by_cases hlt : k < nb
        · obtain rfl : o' = k * 128 := ho' (by omega)
          clear ho'
          have hmI : (0 : Int) < (m : Int) := by omega
          have hmB : (128 : Int) ≤ (m : Int) := by omega
          have hlen : ((ps.drop (k * 128)).take 128).length = 128 := by simp; omega
          have hv : RdI .u8 wr (.slice (some ⟨w1.heap.size, k * 128, none⟩) 128 m) ((ps.drop (k * 128)).take 128) := by
            refine ⟨some ⟨w1.heap.size, k * 128, none⟩, m, by rw [hlen], by omega, by unfold maxLen; omega, fun q hq => ⟨_, _, rfl, ?_⟩, by simp⟩
            rw [hlen] at hq
            have hcq := A4.cell (k := k * 128 + q) (by omega)
            rw [hcq]
            simp [at0, hq]
          have hvb : Bytes ((ps.drop (k * 128)).take 128) := fun x hx => hpsb x (List.mem_of_mem_drop (List.mem_of_mem_take hx))
          have hnx : absorb64 st ps (k + 1) = take64 (absorb64 st ps k) ((ps.drop (k * 128)).take 128) := rfl
          generalize (ps.drop (k * 128)).take 128 = zs at *
          generalize absorb64 st ps k = s1 at *
          have HT := take64_v wr B s1 hr4 hT4 hs hc _ zs hv hvb hlen
          replace hnx := Lib.hid hnx
          replace hm := Lib.hid hm
          clear hpn2
          go_wp2_with (first
            | (go_at_call 43; (with_reducible refine HT.mono ?_); rintro e w9 ⟨⟨v9, rfl⟩, hr9, hg9⟩))
          have hm2 := hm.out
          have hpn3 := hpnb.out
          have hne : B ≠ w1.heap.size := by omega
          have hT9 := hT4.but hg9 hs hc
          have A9 := arr_but A4 hg9 (by simpa using fun e => hne e.symm)
          have hg10 := grown_then hg4 hg9
          by_cases e : m = 128
          · rw [if_pos e]
            refine ⟨⟨k + 1, m - 128, k * 128, by omega, by omega, fun h => by omega, rfl, ?_, hT9, A9, hg10⟩, by show m - 128 < m; omega⟩
            rw [hnx.out]; exact hr9
          · rw [if_neg e]
            refine ⟨⟨k + 1, m - 128, k * 128 + 128, by omega, by omega, fun h => by omega, rfl, ?_, hT9, A9, hg10⟩, by show m - 128 < m; omega⟩
            rw [hnx.out]; exact hr9
        · obtain rfl : k = nb := by omega
          have hm0 : m = 0 := by omega
          subst hm0
          clear hm hpn2
          go_wp2
          refine bodyPost_end (results_none rfl _ _ _) rfl ?_
          rw [hnb.out, hps.out]
          exact ⟨⟨_, rfl⟩, hr4, hg4⟩
/-- How many bytes so many have when they are padded. -/
def padN32 (n : Nat) : Nat := (n + 1 + 8 + 64 - 1) / 64 * 64
theorem padN32_eq (n : Nat) (h : n < 64) : padded (n : Int) 32 = (padN32 n : Nat) := by
  unfold padded padN32
  rw [if_neg (by omega)]
  omega
theorem padN32_le (n : Nat) (h : n < 64) : n + 8 < padN32 n ∧ padN32 n ≤ 128 ∧ padN32 n % 64 = 0 := by unfold padN32; omega
def padB32 (hl : List Int) (n : Nat) : List Int := (hl.take n ++ List.replicate (padN32 n - n) 0).set n 128
theorem padB32_len (hl : List Int) (n : Nat) (h : n < 64) (hh : hl.length = n) : (padB32 hl n).length = padN32 n := by
  have := padN32_le n h
  simp [padB32, hh]
  omega
/-- A state behind so many blocks. -/
def absorb32 (st zs : List Int) : Nat → List Int
  | 0 => st
  | k + 1 => take32 (absorb32 st zs k) ((zs.drop (k * 64)).take 64)
set_option maxHeartbeats 4000000 in
theorem last32_v (w : World) (B : Nat) (st : List Int) (hr : RS32 w B st) (hT : TabS w) (hs : 0 ≠ B) (hc : 3 ≠ B) (Bh : Nat) (hl : List Int) (n : Nat) (hA : ∀ q, q < n → w.cell? ⟨Bh, q, none⟩ = some (.int .u8 (at0 hl q))) (hll : hl.length = n) (hn : n < 64) (hby : Bytes hl) (tot : Int) (ht0 : 0 ≤ tot) (ht1 : tot < 72057594037927936) :
    Calls Tryd.prog 39 #[.pointer (some ⟨B, 0, none⟩), .slice (some ⟨Bh, 0, none⟩) n 64, .int .i64 tot] w fun e w' => (∃ v, e = .returned v) ∧ RS32 w' B (absorb32 st (padS (padB32 hl n) tot 8) (padN32 n / 64)) ∧ w.grownBy w' (some B) := by
  have hB := hr.lt
  have hwd := hr.width
  have hpn := padN32_le n hn
  have hpl := padB32_len hl n hn hll
  have hpb : Bytes (padB32 hl n) := fun x hx => by
    rcases List.mem_or_eq_of_mem_set hx with h | rfl
    · rcases List.mem_append.1 h with h | h
      · exact hby x (List.mem_of_mem_take h)
      · obtain ⟨-, rfl⟩ := List.mem_replicate.1 h; decide
    · decide
  have HP : ∀ W, Calls Tryd.prog 14 #[.int .i64 (n : Int), .int .i64 32] W fun e w' => e = .returned (.int .i64 ((padN32 n : Nat) : Int)) ∧ w' = W := fun W => by
    have h := padded_v (n : Int) 32 W (by omega) (by omega)
    rw [padN32_eq n hn] at h
    exact h
  have hp0 : (hl.take n ++ List.replicate (padN32 n - n) 0).set n 128 = padB32 hl n := rfl
  have hrd : (List.replicate (padN32 n) (0 : Int)).drop n = List.replicate (padN32 n - n) 0 := by simp
  have hla : (hl.take n ++ List.replicate (padN32 n - n) (0 : Int)).length = padN32 n := by simp [hll]; omega
  obtain ⟨q0, hq0⟩ : ∃ q, hl.take n ++ List.replicate (padN32 n - n) (0 : Int) = q := ⟨_, rfl⟩
  rw [hq0] at hp0 hla
  generalize padB32 hl n = pb at *
  generalize padN32 n = pn at *
  go_enter Tryd.func39, Tryd.ntmps39
  go_wp2_with (first
    | (go_at_call 14; (with_reducible refine (HP _).mono ?_); rintro e w1 ⟨rfl, rfl⟩)
    | (with_reducible refine at_n 17 ?_; refine wpList_makeB rfl 25 5 _ _ rfl Tryd.underlying25 .u8 (by kernel_rfl) (by kernel_rfl) (by kernel_rfl) pn pn rfl rfl (Nat.le_refl _) (by omega) ?_; intro w2 A2 s2 b2; have hr2 := hr.below b2; have hT2 := hT.below b2; have hA2 : ∀ q, q < n → w2.cell? ⟨Bh, q, none⟩ = some (.int .u8 (at0 hl q)) := fun q hq => by rw [b2.cell (World.block_lt_of_cell? _ _ (hA q hq))]; exact hA q hq)
    | (with_reducible refine at_n 20 ?_; refine wpList_copyT rfl _ _ _ _ rfl 5 Tryd.underlying25 (by kernel_rfl) w1.heap.size Bh _ _ pn n rfl rfl .u8 _ hl A2 hA2 (by simp) hll (by omega) ?_; rw [hrd, hq0]; intro A3; have c3 := A3.cell (k := n) (by omega); have f3 := A3.free (k := n) (by omega)))
  have hs2 := b2.size
  have hrA : RS32 ((w2.setRow w1.heap.size (q0.map (Value.int .u8)).toArray).setCell ⟨w1.heap.size, n, none⟩ (.int .u8 128)) B st := hr2.but (grown_set (grown_row _ _ _) _ _) (by simp; omega)
  have hTA : TabS ((w2.setRow w1.heap.size (q0.map (Value.int .u8)).toArray).setCell ⟨w1.heap.size, n, none⟩ (.int .u8 128)) := hT2.but (grown_set (grown_row _ _ _) _ _) (by have := hT.lt.1; omega) (by have := hT.lt.2; omega)
  have hgA : w1.grownBy ((w2.setRow w1.heap.size (q0.map (Value.int .u8)).toArray).setCell ⟨w1.heap.size, n, none⟩ (.int .u8 128)) (some B) := grown_below ((below_row b2 (Nat.le_refl _) _).setCell (Nat.le_refl _) _) B
  have A4 := A3.set n 128
  rw [hp0] at A4
  generalize (w2.setRow w1.heap.size (q0.map (Value.int .u8)).toArray).setCell ⟨w1.heap.size, n, none⟩ (.int .u8 128) = w4 at *
  clear hr2 hT2 hA2 A2 A3 c3 f3 hp0 hla hrd hq0 hwd HP
  go_loopw [28] (fun i wr => ∃ (k : Nat), k ≤ 8 ∧ i = .int .i64 k ∧ RS32 wr B st ∧ TabS wr ∧ Arr .u8 wr w1.heap.size (padS pb tot k) ∧ w1.grownBy wr (some B)) (fun i _ => 8 - (intOf i).toNat)
  case atStart => exact ⟨0, by omega, rfl, hrA, hTA, A4, hgA⟩
  case round =>
    clear hrA hTA A4 hgA
    obtain ⟨k, hk, rfl, hr4, hT4, A4, hg4⟩ := hrel
    have hl4 := padS_len pb tot k
    by_cases hlt : k < 8
    · have hnx : padS pb tot (k + 1) = (padS pb tot k).set (pn - 1 - k) (tot * 8 / 2 ^ (8 * k) % 256) := by rw [← hpl]; rfl
      generalize padS pb tot k = ps at *
      obtain ⟨j, e1, ej⟩ : ∃ j : Nat, (pn : Int) - 1 - (k : Int) = (j : Int) ∧ pn - 1 - k = j := ⟨pn - 1 - k, by omega, rfl⟩
      rw [ej] at hnx
      have hj : j < pn := by omega
      have hjI : (j : Int) < pn := by omega
      have cj := A4.cell (k := j) (by omega)
      have fj := A4.free (k := j) (by omega)
      replace hnx := Lib.hid hnx
      clear ej
      go_wp2
      refine ⟨⟨k + 1, by omega, by go_num, hr4.but (grown_set (World.grownBy.refl wr (some w1.heap.size)) j _) (by simp; omega), hT4.but (grown_set (World.grownBy.refl wr (some w1.heap.size)) j _) (by have := hT.lt.1; omega) (by have := hT.lt.2; omega), ?_, ?_⟩, by simp only [intOf]; omega⟩
      · rw [hnx.out]
        exact A4.set j _
      · exact grown_new hg4 _ _ (Nat.le_refl _)
    · obtain rfl : k = 8 := by omega
      have hwd := hr4.width
      have hpsb := padS_bytes hpb tot 8
      generalize hps : padS pb tot 8 = ps at *
      replace hps := Lib.hid hps
      have HBS := fun W => blockSize_v 32 W (by omega)
      obtain ⟨nb, hnb⟩ : ∃ nb, pn / 64 = nb := ⟨_, rfl⟩
      have hpnb : pn = nb * 64 := by omega
      have hps0 : ps.length = pn := by rw [hl4, hpl]
      clear hl4
      replace hnb := Lib.hid hnb
      replace hpnb := Lib.hid hpnb
      go_wp2_with (first
        | (go_at_call 35; (with_reducible refine (HBS _).mono ?_); rintro e w9 ⟨rfl, rfl⟩))
      go_loopw [6] (fun v wr => ∃ (k m o' : Nat), k ≤ nb ∧ m = pn - k * 64 ∧ (0 < m → o' = k * 64) ∧ v = .slice (some ⟨w1.heap.size, o', none⟩) m m ∧ RS32 wr B (absorb32 st ps k) ∧ TabS wr ∧ Arr .u8 wr w1.heap.size ps ∧ w1.grownBy wr (some B)) (fun v _ => match v with | .slice _ n _ => n | _ => 0)
      case atStart => exact ⟨0, pn, 0, by omega, by omega, fun _ => by omega, rfl, hr4, hT4, A4, hg4⟩
      case round =>
        clear hr4 hT4 A4 hg4 hwd
        obtain ⟨k, m, o', hk, hm, ho', rfl, hr4, hT4, A4, hg4⟩ := hrel
        have hpn2 := hpnb.out
        by_cases hlt : k < nb
        · obtain rfl : o' = k * 64 := ho' (by omega)
          clear ho'
          have hmI : (0 : Int) < (m : Int) := by omega
          have hmB : (64 : Int) ≤ (m : Int) := by omega
          have hlen : ((ps.drop (k * 64)).take 64).length = 64 := by simp; omega
          have hv : RdI .u8 wr (.slice (some ⟨w1.heap.size, k * 64, none⟩) 64 m) ((ps.drop (k * 64)).take 64) := by
            refine ⟨some ⟨w1.heap.size, k * 64, none⟩, m, by rw [hlen], by omega, by unfold maxLen; omega, fun q hq => ⟨_, _, rfl, ?_⟩, by simp⟩
            rw [hlen] at hq
            have hcq := A4.cell (k := k * 64 + q) (by omega)
            rw [hcq]
            simp [at0, hq]
          have hvb : Bytes ((ps.drop (k * 64)).take 64) := fun x hx => hpsb x (List.mem_of_mem_drop (List.mem_of_mem_take hx))
          have hnx : absorb32 st ps (k + 1) = take32 (absorb32 st ps k) ((ps.drop (k * 64)).take 64) := rfl
          generalize (ps.drop (k * 64)).take 64 = zs at *
          generalize absorb32 st ps k = s1 at *
          have HT := take32_v wr B s1 hr4 hT4 hs hc _ zs hv hvb hlen
          replace hnx := Lib.hid hnx
          replace hm := Lib.hid hm
          clear hpn2
          go_wp2_with (first
            | (go_at_call 38; (with_reducible refine HT.mono ?_); rintro e w9 ⟨⟨v9, rfl⟩, hr9, hg9⟩))
          have hm2 := hm.out
          have hpn3 := hpnb.out
          have hne : B ≠ w1.heap.size := by omega
          have hT9 := hT4.but hg9 hs hc
          have A9 := arr_but A4 hg9 (by simpa using fun e => hne e.symm)
          have hg10 := grown_then hg4 hg9
          by_cases e : m = 64
          · rw [if_pos e]
            refine ⟨⟨k + 1, m - 64, k * 64, by omega, by omega, fun h => by omega, rfl, ?_, hT9, A9, hg10⟩, by show m - 64 < m; omega⟩
            rw [hnx.out]; exact hr9
          · rw [if_neg e]
            refine ⟨⟨k + 1, m - 64, k * 64 + 64, by omega, by omega, fun h => by omega, rfl, ?_, hT9, A9, hg10⟩, by show m - 64 < m; omega⟩
            rw [hnx.out]; exact hr9
        · obtain rfl : k = nb := by omega
          have hm0 : m = 0 := by omega
          subst hm0
          clear hm hpn2
          go_wp2
          refine bodyPost_end (results_none rfl _ _ _) rfl ?_
          rw [hnb.out, hps.out]
          exact ⟨⟨_, rfl⟩, hr4, hg4⟩
end Go.Proofs.YtohnicmacmkapaaDoor
