/- Laws of ours: a row of numbers that the call may write; a text as bytes, bytes as a text. -/
import Derived.Test.YthefddclefimoaaDoorLaws
import Derived.Laws.BytesArg
import Derived.Laws.IdiomStrings
namespace Go.Proofs.YthefddclefimoaaDoor
open Go.RowKit
set_option linter.unusedVariables false

/-- Block B holds these numbers from its head on, and each may be written. -/
def BRow (K : IntKind) (w : World) (B : Nat) (zs : List Int) : Prop :=
  ∃ cur e fz, w.heap[B]? = some (.cells cur e fz) ∧ zs.length ≤ cur.size ∧ ∀ j, j < zs.length → cur[j]? = some (.int K (at0 zs j)) ∧ ¬ (fz.1 ≤ j ∧ j < fz.2)

theorem BRow.cell {K : IntKind} {w : World} {B : Nat} {zs : List Int} (h : BRow K w B zs) {k : Nat} (hk : k < zs.length) : w.cell? ⟨B, k, none⟩ = some (.int K (at0 zs k)) := by
  obtain ⟨cur, e, fz, h1, h2, h3⟩ := h
  simp [World.cell?, h1, (h3 k hk).1]
theorem BRow.free {K : IntKind} {w : World} {B : Nat} {zs : List Int} (h : BRow K w B zs) {k : Nat} (hk : k < zs.length) : w.frozen? ⟨B, k, none⟩ = false := by
  obtain ⟨cur, e, ⟨lo, hi⟩, h1, h2, h3⟩ := h
  have := (h3 k hk).2
  simp only [World.frozen?, h1]
  simp at this ⊢
  exact this
theorem at0_set (zs : List Int) (k j : Nat) (x : Int) (hk : k < zs.length) : at0 (zs.set k x) j = if j = k then x else at0 zs j := by
  unfold at0
  by_cases h : j = k
  · subst h; simp [hk]
  · rw [if_neg h, List.getElem?_set_ne (by omega)]
theorem BRow.set {K : IntKind} {w : World} {B : Nat} {zs : List Int} (h : BRow K w B zs) {k : Nat} (hk : k < zs.length) (x : Int) : BRow K (w.setCell ⟨B, k, none⟩ (.int K x)) B (zs.set k x) := by
  obtain ⟨cur, e, fz, h1, h2, h3⟩ := h
  refine ⟨cur.setIfInBounds k (.int K x), e, fz, ?_, by simpa using h2, fun j hj => ?_⟩
  · simp [World.setCell, Array.getElem?_modify, h1]
  · simp only [List.length_set] at hj
    refine ⟨?_, (h3 j hj).2⟩
    rw [at0_set zs k j x hk]
    by_cases hjk : j = k
    · subst hjk
      have : j < cur.size := by omega
      simp [this]
    · rw [if_neg hjk, Array.getElem?_setIfInBounds_ne (by omega)]
      exact (h3 j hj).1
theorem BRow.below {K : IntKind} {w w' : World} {B : Nat} {zs : List Int} (h : BRow K w B zs) (hb : Below w.heap.size w w') : BRow K w' B zs := by
  obtain ⟨cur, e, fz, h1, h2, h3⟩ := h
  exact ⟨cur, e, fz, by rw [hb.block B (Array.getElem?_eq_some_iff.1 h1).1]; exact h1, h2, h3⟩
theorem BRow.lt {K : IntKind} {w : World} {B : Nat} {zs : List Int} (h : BRow K w B zs) : B < w.heap.size := by
  obtain ⟨cur, e, fz, h1, h2, h3⟩ := h
  exact (Array.getElem?_eq_some_iff.1 h1).1
theorem BRow.rd {K : IntKind} {w : World} {B cap : Nat} {zs : List Int} (h : BRow K w B zs) (h1 : zs.length ≤ cap) (h2 : cap ≤ maxLen) : RdI K w (.slice (some ⟨B, 0, none⟩) zs.length cap) zs :=
  ⟨_, cap, rfl, h1, h2, fun k hk => ⟨B, 0, rfl, by rw [Nat.zero_add]; exact h.cell hk⟩, fun h => by cases h⟩

/-- A text's bytes as numbers. -/
def sb (s : ByteArray) : List Int := s.data.toList.map fun c => (c.toNat : Int)
theorem sb_length (s : ByteArray) : (sb s).length = s.size := by simp [sb]
theorem sb_bytes (s : ByteArray) : Bytes (sb s) := by
  intro x hx
  simp only [sb, List.mem_map] at hx
  obtain ⟨c, _, rfl⟩ := hx
  have := c.toNat_lt
  omega
theorem at0_sb (s : ByteArray) (k : Nat) (h : k < s.size) : at0 (sb s) k = (s[k].toNat : Int) := by
  have h' : k < (sb s).length := by rw [sb_length]; exact h
  rw [at0_lt h']
  simp [sb]
  rfl
theorem strOf_sb (s : ByteArray) : strOfNums (sb s) = s := by
  cases s with
  | mk d =>
    simp only [strOfNums, sb, List.map_map]
    congr 1
    have : (fun n : Int => UInt8.ofNat n.toNat) ∘ (fun c : UInt8 => (c.toNat : Int)) = id := by
      funext c
      simp
    rw [this]
    simp
theorem sb_strOf {l : List Int} (h : Bytes l) : sb (strOfNums l) = l := by
  simp only [sb, strOfNums_data, List.map_map]
  have : ∀ x ∈ l, ((fun c : UInt8 => (c.toNat : Int)) ∘ fun n : Int => UInt8.ofNat n.toNat) x = x := by
    intro x hx
    have := h x hx
    simp only [Function.comp, UInt8.toNat_ofNat']
    omega
  rw [List.map_congr_left this]
  simp
theorem str_eq_yes {a b : ByteArray} (h : a = b) : (a.toList == b.toList) = true := by subst h; simp
theorem str_eq_no {a b : ByteArray} (h : ¬ a = b) : (a.toList == b.toList) = false := by
  rw [beq_eq_false_iff_ne]
  intro e
  apply h
  rw [ByteArray.toList_eq, ByteArray.toList_eq] at e
  cases a; cases b
  congr 1
  exact Array.toList_inj.1 e
theorem sb_inj {a b : ByteArray} (h : sb a = sb b) : a = b := by rw [← strOf_sb a, h, strOf_sb]

section
variable {P : Program} {w : World} {ops : Array Oper} {rest : List Oper} {o : Oper} {a : Act} {Q : Exit → Act → World → Prop}
theorem wpList_conv_sb (hgd : o.guard = none) (x : Operand) (src dst e : TypeId) (ho : o.op = .convert src dst x) (hs : P.underlying src = some .string) (hd : P.underlying dst = some (.slice e)) (he : P.underlying e = some (.int .u8))
    (s : ByteArray) (hx : a.eval x = .string s) (hm : s.size ≤ maxLen)
    (h : ∀ w1 cap, s.size ≤ cap → cap ≤ maxLen → BRow .u8 w1 w.heap.size (sb s) → Below w.heap.size w w1 → wpList P ops Q rest (a.put o.dst (.slice (some ⟨w.heap.size, 0, none⟩) s.size cap)) w1) : wpList P ops Q (o :: rest) a w := by
  refine wpList_plain hgd fun Kq hK => ?_
  unfold Oper.wp
  simp only [execOp, ho, hx]
  have hrun := run_bytes_of_string (P := P) w src dst e s hs hd he
  simp only [Sem.run_bind, hrun, Result.andThen]
  have hge := grownCap_ge w s.size 0 e
  refine hK _ _ (h _ _ hge (grownCap_le_maxLen w s.size 0 e hm) ⟨_, _, _, heap_alloc_new w.drew _, ?_, fun j hj => ⟨?_, ?_⟩⟩ ((Below.refl _ _).drew.alloc (Nat.le_refl _) _))
  · rw [sb_length]; simp [bytesRow]
  · rw [sb_length] at hj
    have hjs : j < s.data.size := hj
    rw [at0_sb s j hj]
    simp only [bytesRow, Array.getElem?_append]
    rw [if_pos (by simpa using hj)]
    simp only [Array.getElem?_map, Array.getElem?_eq_getElem hjs, Option.map_some]
    rfl
  · rw [sb_length] at hj
    simp [bytesRow]
    have : s.data.size = s.size := rfl
    omega
theorem run_conv_bs (src dst e : TypeId) (hs : P.underlying src = some (.slice e)) (hd : P.underlying dst = some .string) (he : P.underlying e = some (.int .u8))
    (v : Value) (zs : List Int) (hx : RdI .u8 w v zs) : (convert src dst v).run P w = .ok (.string (strOfNums zs)) w := by
  obtain ⟨ad, cap, rfl, h1, h2, h3, h4⟩ := hx
  by_cases h0 : zs.length = 0
  · obtain rfl := List.eq_nil_of_length_eq_zero h0
    rw [run_convert_bytes_string w src dst e _ _ _ hs he hd]
    cases ad with
    | none => simp [Conv.bytesToString, strOfNums]; rfl
    | some ad =>
      rw [← run_convert_bytes_string w src dst e (some ad) _ cap hs he hd]
      obtain ⟨b, off, sp⟩ := ad
      cases sp with
      | none => exact run_convert_bytes_arg w src e hs he b off 0 cap [] rfl (fun i hi => by omega) dst hd
      | some sp =>
        rw [run_convert_bytes_string w src dst e _ _ _ hs he hd]
        simp [Conv.bytesToString, strOfNums, loadCells, loadCellsFrom]
        rfl
  · obtain ⟨x, o, rfl, _⟩ := h3 0 (by omega)
    refine run_convert_bytes_arg w src e hs he x o zs.length cap zs rfl (fun i hi => ?_) dst hd
    obtain ⟨x', o', he2, hc⟩ := h3 i hi
    cases he2
    rw [hc]
    simp [at0, List.getD]
end
end Go.Proofs.YthefddclefimoaaDoor
