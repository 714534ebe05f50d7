/- Bytes as letters, bit by bit: plain facts. -/
import Derived.Test.YtibkkdbjmcongaaDoorRow
namespace Go.Proofs.YtibkkdbjmcongaaDoor
open Go.RowKit
set_option linter.unusedVariables false

def sizeI (n : Int) : Int := if n < 0 ∨ 1099511627776 < n then 0 else (n * 8 + 5) / 6

/-- The bit at a place. -/
def bitAt (l : List Int) (i : Nat) : Int := at0 l (i / 8) / 2 ^ (7 - i % 8) % 2
/-- A row of bits: what has been told, the bits since, how many they are. -/
abbrev BSt := List Int × Int × Nat
def bstep (s : BSt) (b : Int) : BSt := if s.2.2 + 1 = 6 then (s.1 ++ [2 * s.2.1 + b], 0, 0) else (s.1, 2 * s.2.1 + b, s.2.2 + 1)
/-- Behind the first k bits. -/
def bst (l : List Int) : Nat → BSt
  | 0 => ([], 0, 0)
  | k + 1 => bstep (bst l k) (bitAt l k)
def Inv (s : BSt) : Prop := s.2.2 < 6 ∧ 0 ≤ s.2.1 ∧ s.2.1 < 2 ^ s.2.2 ∧ ∀ e ∈ s.1, 0 ≤ e ∧ e < 64
theorem bitAt_01 (l : List Int) (i : Nat) : 0 ≤ bitAt l i ∧ bitAt l i ≤ 1 := by unfold bitAt; omega
theorem Inv.step {s : BSt} (h : Inv s) {b : Int} (h0 : 0 ≤ b) (h1 : b ≤ 1) : Inv (bstep s b) := by
  obtain ⟨es, n, k⟩ := s
  obtain ⟨i1, i2, i3, i4⟩ := h
  simp only at i1 i2 i3 i4
  unfold bstep
  simp only
  by_cases hk : k + 1 = 6
  · rw [if_pos hk]
    obtain rfl : k = 5 := by omega
    refine ⟨by simp, by simp, by simp, fun e he => ?_⟩
    rcases List.mem_append.1 he with he | he
    · exact i4 e he
    · simp at he
      omega
  · rw [if_neg hk]
    refine ⟨by simp only; omega, by simp only; omega, ?_, i4⟩
    simp only [Int.pow_succ]
    omega
theorem bst_inv (l : List Int) (k : Nat) : Inv (bst l k) := by
  induction k with
  | zero => exact ⟨by simp [bst], by simp [bst], by simp [bst], by simp [bst]⟩
  | succ k ih => exact ih.step (bitAt_01 l k).1 (bitAt_01 l k).2
theorem Inv.small {s : BSt} (h : Inv s) : s.2.1 < 32 := by
  obtain ⟨i1, i2, i3, i4⟩ := h
  have : s.2.2 = 0 ∨ s.2.2 = 1 ∨ s.2.2 = 2 ∨ s.2.2 = 3 ∨ s.2.2 = 4 ∨ s.2.2 = 5 := by omega
  rcases this with e | e | e | e | e | e <;> (rw [e] at i3; omega)

/-- All letters' numbers. -/
def encL (l : List Int) : List Int :=
  if (bst l (8 * l.length)).2.2 = 0 then (bst l (8 * l.length)).1
  else (bst l (8 * l.length)).1 ++ [(bst l (8 * l.length)).2.1 * 2 ^ (6 - (bst l (8 * l.length)).2.2)]

/-- The letter of a number. -/
def lttr (L : ByteArray) (e : Int) : Int := at0 (sb L) e.toNat
def strL (L : ByteArray) (es : List Int) : ByteArray := strOfNums (es.map (lttr L))
theorem strL_snoc (L : ByteArray) (es : List Int) (e : Nat) (h : e < L.size) : strL L es ++ L.extract e (e + 1) = strL L (es ++ [(e : Int)]) := by
  apply sb_inj
  have h1 : Bytes (es.map (lttr L)) := by
    intro x hx
    obtain ⟨y, _, rfl⟩ := List.mem_map.1 hx
    exact (sb_bytes L).at _
  have h2 : Bytes ((es ++ [(e : Int)]).map (lttr L)) := by
    intro x hx
    obtain ⟨y, _, rfl⟩ := List.mem_map.1 hx
    exact (sb_bytes L).at _
  have happ : ∀ a b : ByteArray, sb (a ++ b) = sb a ++ sb b := fun a b => by simp [sb]
  have hex : sb (L.extract e (e + 1)) = [lttr L e] := by
    have hl : (sb L).length = L.size := sb_length L
    have : sb (L.extract e (e + 1)) = ((sb L).drop e).take 1 := by
      simp only [sb, ByteArray.data_extract, Array.toList_extract, List.extract_eq_take_drop, List.map_take, List.map_drop]
      rw [show e + 1 - e = 1 by omega]
    have he : e < (sb L).length := by omega
    rw [this, List.drop_eq_getElem_cons he, List.take_succ_cons, List.take_zero, lttr, Int.toNat_natCast, at0_lt he]
  rw [happ, hex]
  unfold strL
  rw [sb_strOf h1, sb_strOf h2]
  simp
theorem and1 (x : Int) (h0 : 0 ≤ x) (h1 : x ≤ 255) : bits BinOp.and IntKind.u8 x 1 = x % 2 := by
  have key : ∀ n : Fin 256, bits BinOp.and IntKind.u8 (n.val : Int) 1 = (n.val : Int) % 2 := by decide +kernel
  have := key ⟨x.toNat, by omega⟩
  simpa [Int.toNat_of_nonneg h0] using this
theorem shr_le (x : Int) (j : Nat) (h0 : 0 ≤ x) (h1 : x ≤ 255) : 0 ≤ x / 2 ^ j ∧ x / 2 ^ j ≤ 255 := by
  have hp : (0 : Int) < 2 ^ j := Int.pow_pos (by omega)
  refine ⟨Int.ediv_nonneg h0 (by omega), ?_⟩
  exact Int.le_trans (Int.ediv_le_self _ h0) h1
theorem strL_size (L : ByteArray) (es : List Int) : (strL L es).size = es.length := by rw [strL, strOfNums_size]; simp
theorem bst_len (l : List Int) (k : Nat) : (bst l k).1.length ≤ k := by
  induction k with
  | zero => simp [bst]
  | succ k ih =>
    rw [bst, bstep]
    split
    · simp only [List.length_append, List.length_cons, List.length_nil]; omega
    · simp only; omega
/-- A text, cut at both ends. -/
theorem run_str_slice {P : Program} (t : TypeId) (ht : P.underlying t = some .string) (L : ByteArray) (lo hi : Int) (h0 : 0 ≤ lo) (h1 : lo ≤ hi) (h2 : hi ≤ L.size) (w : World) :
    (Instr.sliceAt t (.string L) (some (.int .i64 lo)) (some (.int .i64 hi)) none).run P w = .ok (.string (L.extract lo.toNat hi.toNat)) w := by
  obtain ⟨a, rfl⟩ := Int.eq_ofNat_of_zero_le h0
  obtain ⟨b, rfl⟩ := Int.eq_ofNat_of_zero_le (Int.le_trans h0 h1)
  have e1 : a ≤ b := by omega
  have e2 : b ≤ L.size := by omega
  rw [run_sliceAt_string w t _ _ _ _ ht]
  simp [Instr.slice, run_underlying ht, Instr.sliceBounds, run_sliceBound, *]
end Go.Proofs.YtibkkdbjmcongaaDoor
