/- The rounds of sha: rotations, the closures of both widths; what the rounds' variable holds. -/
import Derived.Test.YtohnicmacmkapaaDoorArr
import Derived.Test.YtohnicmacmkapaaDoorBits
import Derived.Laws.Closers25b
namespace Go.Proofs.YtohnicmacmkapaaDoor
open Go.RowKit
set_option linter.unusedVariables false
set_option maxRecDepth 8000

def rot64 (x s : Int) : Int := bits BinOp.or .u64 (x * 2 ^ s.toNat % 18446744073709551616) (x / 2 ^ (64 - s).toNat)
def In64 (x : Int) : Prop := 0 ≤ x ∧ x < 18446744073709551616
theorem bits_in64 (op : BinOp) (a b : Int) : In64 (bits op .u64 a b) := by
  have h := bits_within op .u64 a b
  have h1 : IntKind.min .u64 = 0 := by decide
  have h2 : IntKind.max .u64 = 18446744073709551616 - 1 := by decide
  rw [h1, h2] at h
  unfold In64
  omega
theorem rotl64_v (x k : Int) (w : World) (hx : In64 x) (s : Int) (hs : bits BinOp.and .u64 (IntKind.u64.wrap k) 63 = s) (h0 : 0 ≤ s) (h1 : s < 64) :
    Calls Tryd.prog 28 #[.int .u64 x, .int .i64 k] w fun e w' => e = .returned (.int .u64 (rot64 x s)) ∧ w' = w := by
  obtain ⟨hx0, hx1⟩ := hx
  go_enter Tryd.func28, Tryd.ntmps28
  go_wp2
  go_ret
  exact ⟨rfl, rfl⟩
def bigA64 (x : Int) : Int := bits BinOp.xor .u64 (bits BinOp.xor .u64 (rot64 x 36) (rot64 x 30)) (rot64 x 25)
theorem bigA64_in (x : Int) : In64 (bigA64 x) := bits_in64 _ _ _
theorem bigA64_v (x : Int) (w : World) (hx : In64 x) : Calls Tryd.prog 27 #[.int .u64 x] w fun e w' => e = .returned (.int .u64 (bigA64 x)) ∧ w' = w := by
  have hx' := hx
  obtain ⟨hx0, hx1⟩ := hx'
  go_enter Tryd.func27, Tryd.ntmps27
  go_wp2_with (first
    | (go_at_call 28; first | (with_reducible refine (rotl64_v x (-28) _ hx 36 (by decide) (by decide) (by decide)).mono ?_; rintro e w1 ⟨rfl, rfl⟩) | (with_reducible refine (rotl64_v x (-34) _ hx 30 (by decide) (by decide) (by decide)).mono ?_; rintro e w2 ⟨rfl, rfl⟩) | (with_reducible refine (rotl64_v x (-39) _ hx 25 (by decide) (by decide) (by decide)).mono ?_; rintro e w3 ⟨rfl, rfl⟩)))
  go_ret
  exact ⟨rfl, rfl⟩
def bigB64 (x : Int) : Int := bits BinOp.xor .u64 (bits BinOp.xor .u64 (rot64 x 50) (rot64 x 46)) (rot64 x 23)
theorem bigB64_in (x : Int) : In64 (bigB64 x) := bits_in64 _ _ _
theorem bigB64_v (x : Int) (w : World) (hx : In64 x) : Calls Tryd.prog 29 #[.int .u64 x] w fun e w' => e = .returned (.int .u64 (bigB64 x)) ∧ w' = w := by
  have hx' := hx
  obtain ⟨hx0, hx1⟩ := hx'
  go_enter Tryd.func29, Tryd.ntmps29
  go_wp2_with (first
    | (go_at_call 28; first | (with_reducible refine (rotl64_v x (-14) _ hx 50 (by decide) (by decide) (by decide)).mono ?_; rintro e w1 ⟨rfl, rfl⟩) | (with_reducible refine (rotl64_v x (-18) _ hx 46 (by decide) (by decide) (by decide)).mono ?_; rintro e w2 ⟨rfl, rfl⟩) | (with_reducible refine (rotl64_v x (-41) _ hx 23 (by decide) (by decide) (by decide)).mono ?_; rintro e w3 ⟨rfl, rfl⟩)))
  go_ret
  exact ⟨rfl, rfl⟩
def lowA64 (x : Int) : Int := bits BinOp.xor .u64 (bits BinOp.xor .u64 (rot64 x 63) (rot64 x 56)) (x / 128)
theorem lowA64_in (x : Int) : In64 (lowA64 x) := bits_in64 _ _ _
theorem lowA64_v (x : Int) (w : World) (hx : In64 x) : Calls Tryd.prog 30 #[.int .u64 x] w fun e w' => e = .returned (.int .u64 (lowA64 x)) ∧ w' = w := by
  have hx' := hx
  obtain ⟨hx0, hx1⟩ := hx'
  go_enter Tryd.func30, Tryd.ntmps30
  go_wp2_with (first
    | (go_at_call 28; first | (with_reducible refine (rotl64_v x (-1) _ hx 63 (by decide) (by decide) (by decide)).mono ?_; rintro e w1 ⟨rfl, rfl⟩) | (with_reducible refine (rotl64_v x (-8) _ hx 56 (by decide) (by decide) (by decide)).mono ?_; rintro e w2 ⟨rfl, rfl⟩)))
  go_ret
  exact ⟨rfl, rfl⟩
def lowB64 (x : Int) : Int := bits BinOp.xor .u64 (bits BinOp.xor .u64 (rot64 x 45) (rot64 x 3)) (x / 64)
theorem lowB64_in (x : Int) : In64 (lowB64 x) := bits_in64 _ _ _
theorem lowB64_v (x : Int) (w : World) (hx : In64 x) : Calls Tryd.prog 31 #[.int .u64 x] w fun e w' => e = .returned (.int .u64 (lowB64 x)) ∧ w' = w := by
  have hx' := hx
  obtain ⟨hx0, hx1⟩ := hx'
  go_enter Tryd.func31, Tryd.ntmps31
  go_wp2_with (first
    | (go_at_call 28; first | (with_reducible refine (rotl64_v x (-19) _ hx 45 (by decide) (by decide) (by decide)).mono ?_; rintro e w1 ⟨rfl, rfl⟩) | (with_reducible refine (rotl64_v x (-61) _ hx 3 (by decide) (by decide) (by decide)).mono ?_; rintro e w2 ⟨rfl, rfl⟩)))
  go_ret
  exact ⟨rfl, rfl⟩
/-- The block of the rounds' variable: width, count, state, four functions. -/
def RS64 (w : World) (B : Nat) (st : List Int) : Prop := st.length = 8 ∧ (∀ x ∈ st, In64 x) ∧ ∃ t, w.heap[B]? = some (.cells ([Value.int .i64 64, Value.int .i64 80] ++ st.map (Value.int .u64) ++ [Value.func (.func 27) #[] #[], Value.func (.func 29) #[] #[], Value.func (.func 30) #[] #[], Value.func (.func 31) #[] #[]]).toArray t (0, 0))
theorem RS64.lt {w : World} {B : Nat} {st : List Int} (h : RS64 w B st) : B < w.heap.size := by
  obtain ⟨_, _, t, h⟩ := h
  exact (Array.getElem?_eq_some_iff.1 h).1
theorem RS64.but {w w' : World} {B : Nat} {st : List Int} (h : RS64 w B st) {row : Option Nat} (hb : w.grownBy w' row) (hr : some B ≠ row) : RS64 w' B st := by
  have hl := h.lt
  obtain ⟨h1, h2, t, h⟩ := h
  exact ⟨h1, h2, t, by obtain ⟨_, _, _, _, hb5⟩ := hb; rw [hb5 B hl hr]; exact h⟩
theorem RS64.below {w w' : World} {B : Nat} {st : List Int} (h : RS64 w B st) (hb : Below w.heap.size w w') : RS64 w' B st := by
  have hl := h.lt
  obtain ⟨h1, h2, t, h⟩ := h
  exact ⟨h1, h2, t, by rw [hb.block B hl]; exact h⟩
theorem RS64.cell {w : World} {B : Nat} {st : List Int} (h : RS64 w B st) (k : Nat) (v : Value) (hv : ([Value.int .i64 64, Value.int .i64 80] ++ st.map (Value.int .u64) ++ [Value.func (.func 27) #[] #[], Value.func (.func 29) #[] #[], Value.func (.func 30) #[] #[], Value.func (.func 31) #[] #[]])[k]? = some v) : w.cell? ⟨B, k, none⟩ = some v ∧ w.frozen? ⟨B, k, none⟩ = false := by
  obtain ⟨h1, h2, t, h⟩ := h
  have hk := (List.getElem?_eq_some_iff.1 hv).1
  constructor
  · simp [World.cell?, h] at hv ⊢
    exact hv
  · simp [World.frozen?, h]
theorem RS64.width {w : World} {B : Nat} {st : List Int} (h : RS64 w B st) : w.cell? ⟨B, 0, none⟩ = some (.int .i64 64) := (h.cell 0 _ rfl).1
theorem RS64.count {w : World} {B : Nat} {st : List Int} (h : RS64 w B st) : w.cell? ⟨B, 1, none⟩ = some (.int .i64 80) := (h.cell 1 _ rfl).1
theorem RS64.stAt {w : World} {B : Nat} {st : List Int} (h : RS64 w B st) {j : Nat} (hj : j < 8) : w.cell? ⟨B, 2 + j, none⟩ = some (.int .u64 (at0 st j)) ∧ w.frozen? ⟨B, 2 + j, none⟩ = false := by
  refine h.cell (2 + j) _ ?_
  have hl := h.1
  rw [List.getElem?_append_left (by simp; omega), List.getElem?_append_right (by simp)]
  simp [at0, show j < st.length by omega]
theorem RS64.fn {w : World} {B : Nat} {st : List Int} (h : RS64 w B st) : w.cell? ⟨B, 10, none⟩ = some (.func (.func 27) #[] #[]) ∧ w.cell? ⟨B, 11, none⟩ = some (.func (.func 29) #[] #[]) ∧ w.cell? ⟨B, 12, none⟩ = some (.func (.func 30) #[] #[]) ∧ w.cell? ⟨B, 13, none⟩ = some (.func (.func 31) #[] #[]) := by
  have hl := h.1
  refine ⟨(h.cell 10 _ ?_).1, (h.cell 11 _ ?_).1, (h.cell 12 _ ?_).1, (h.cell 13 _ ?_).1⟩ <;> simp [hl]
theorem RS64.set {w : World} {B : Nat} {st : List Int} (h : RS64 w B st) {j : Nat} (hj : j < 8) {x : Int} (hx : In64 x) : RS64 (w.setCell ⟨B, 2 + j, none⟩ (.int .u64 x)) B (st.set j x) := by
  obtain ⟨h1, h2, t, h⟩ := h
  refine ⟨by simp [h1], fun y hy => ?_, t, ?_⟩
  · rcases List.mem_or_eq_of_mem_set hy with k | rfl
    · exact h2 y k
    · exact hx
  · simp only [World.setCell, Array.getElem?_modify, h]
    have e : ∀ (a b v : Value) (l r : List Value), j < l.length → ([a, b] ++ l ++ r).set (2 + j) v = [a, b] ++ l.set j v ++ r := by
      intro a b v l r hl
      rw [Nat.add_comm, List.append_assoc, List.append_assoc]
      show a :: b :: (l ++ r).set j v = a :: b :: (l.set j v ++ r)
      rw [List.set_append_left _ _ hl]
    have e2 := e (Value.int .i64 64) (Value.int .i64 80) (Value.int .u64 x) (st.map (Value.int .u64)) [Value.func (.func 27) #[] #[], Value.func (.func 29) #[] #[], Value.func (.func 30) #[] #[], Value.func (.func 31) #[] #[]] (by simp [h1, hj])
    rw [List.map_set, ← e2]
    simp
theorem RS64.stIn {w : World} {B : Nat} {st : List Int} (h : RS64 w B st) (j : Nat) : In64 (at0 st j) := by
  by_cases hj : j < st.length
  · exact h.2.1 _ (at0_mem hj)
  · unfold In64; simp [at0, hj]
theorem cut64_v (x : Int) (w : World) (B : Nat) (st : List Int) (hr : RS64 w B st) (hx : In64 x) : Calls Tryd.prog 42 #[.pointer (some ⟨B, 0, none⟩), .int .u64 x] w fun e w' => e = .returned (.int .u64 x) ∧ w' = w := by
  have h0 := hr.width
  have hl := hr.lt
  obtain ⟨hx0, hx1⟩ := hx
  go_enter Tryd.func42, Tryd.ntmps42
  go_wp2
  go_ret
  exact ⟨rfl, rfl⟩
def rot32 (x s : Int) : Int := bits BinOp.or .u32 (x * 2 ^ s.toNat % 4294967296) (x / 2 ^ (32 - s).toNat)
def In32 (x : Int) : Prop := 0 ≤ x ∧ x < 4294967296
theorem bits_in32 (op : BinOp) (a b : Int) : In32 (bits op .u32 a b) := by
  have h := bits_within op .u32 a b
  have h1 : IntKind.min .u32 = 0 := by decide
  have h2 : IntKind.max .u32 = 4294967296 - 1 := by decide
  rw [h1, h2] at h
  unfold In32
  omega
theorem rotl32_v (x k : Int) (w : World) (hx : In32 x) (s : Int) (hs : bits BinOp.and .u64 (IntKind.u64.wrap k) 31 = s) (h0 : 0 ≤ s) (h1 : s < 32) :
    Calls Tryd.prog 19 #[.int .u32 x, .int .i64 k] w fun e w' => e = .returned (.int .u32 (rot32 x s)) ∧ w' = w := by
  obtain ⟨hx0, hx1⟩ := hx
  go_enter Tryd.func19, Tryd.ntmps19
  go_wp2
  go_ret
  exact ⟨rfl, rfl⟩
def bigA32 (x : Int) : Int := bits BinOp.xor .u32 (bits BinOp.xor .u32 (rot32 x 30) (rot32 x 19)) (rot32 x 10)
theorem bigA32_in (x : Int) : In32 (bigA32 x) := bits_in32 _ _ _
theorem bigA32_v (x : Int) (w : World) (hx : In32 x) : Calls Tryd.prog 18 #[.int .u32 x] w fun e w' => e = .returned (.int .u32 (bigA32 x)) ∧ w' = w := by
  have hx' := hx
  obtain ⟨hx0, hx1⟩ := hx'
  go_enter Tryd.func18, Tryd.ntmps18
  go_wp2_with (first
    | (go_at_call 19; first | (with_reducible refine (rotl32_v x (-2) _ hx 30 (by decide) (by decide) (by decide)).mono ?_; rintro e w1 ⟨rfl, rfl⟩) | (with_reducible refine (rotl32_v x (-13) _ hx 19 (by decide) (by decide) (by decide)).mono ?_; rintro e w2 ⟨rfl, rfl⟩) | (with_reducible refine (rotl32_v x (-22) _ hx 10 (by decide) (by decide) (by decide)).mono ?_; rintro e w3 ⟨rfl, rfl⟩)))
  go_ret
  exact ⟨rfl, rfl⟩
def bigB32 (x : Int) : Int := bits BinOp.xor .u32 (bits BinOp.xor .u32 (rot32 x 26) (rot32 x 21)) (rot32 x 7)
theorem bigB32_in (x : Int) : In32 (bigB32 x) := bits_in32 _ _ _
theorem bigB32_v (x : Int) (w : World) (hx : In32 x) : Calls Tryd.prog 20 #[.int .u32 x] w fun e w' => e = .returned (.int .u32 (bigB32 x)) ∧ w' = w := by
  have hx' := hx
  obtain ⟨hx0, hx1⟩ := hx'
  go_enter Tryd.func20, Tryd.ntmps20
  go_wp2_with (first
    | (go_at_call 19; first | (with_reducible refine (rotl32_v x (-6) _ hx 26 (by decide) (by decide) (by decide)).mono ?_; rintro e w1 ⟨rfl, rfl⟩) | (with_reducible refine (rotl32_v x (-11) _ hx 21 (by decide) (by decide) (by decide)).mono ?_; rintro e w2 ⟨rfl, rfl⟩) | (with_reducible refine (rotl32_v x (-25) _ hx 7 (by decide) (by decide) (by decide)).mono ?_; rintro e w3 ⟨rfl, rfl⟩)))
  go_ret
  exact ⟨rfl, rfl⟩
def lowA32 (x : Int) : Int := bits BinOp.xor .u32 (bits BinOp.xor .u32 (rot32 x 25) (rot32 x 14)) (x / 8)
theorem lowA32_in (x : Int) : In32 (lowA32 x) := bits_in32 _ _ _
theorem lowA32_v (x : Int) (w : World) (hx : In32 x) : Calls Tryd.prog 21 #[.int .u32 x] w fun e w' => e = .returned (.int .u32 (lowA32 x)) ∧ w' = w := by
  have hx' := hx
  obtain ⟨hx0, hx1⟩ := hx'
  go_enter Tryd.func21, Tryd.ntmps21
  go_wp2_with (first
    | (go_at_call 19; first | (with_reducible refine (rotl32_v x (-7) _ hx 25 (by decide) (by decide) (by decide)).mono ?_; rintro e w1 ⟨rfl, rfl⟩) | (with_reducible refine (rotl32_v x (-18) _ hx 14 (by decide) (by decide) (by decide)).mono ?_; rintro e w2 ⟨rfl, rfl⟩)))
  go_ret
  exact ⟨rfl, rfl⟩
def lowB32 (x : Int) : Int := bits BinOp.xor .u32 (bits BinOp.xor .u32 (rot32 x 15) (rot32 x 13)) (x / 1024)
theorem lowB32_in (x : Int) : In32 (lowB32 x) := bits_in32 _ _ _
theorem lowB32_v (x : Int) (w : World) (hx : In32 x) : Calls Tryd.prog 22 #[.int .u32 x] w fun e w' => e = .returned (.int .u32 (lowB32 x)) ∧ w' = w := by
  have hx' := hx
  obtain ⟨hx0, hx1⟩ := hx'
  go_enter Tryd.func22, Tryd.ntmps22
  go_wp2_with (first
    | (go_at_call 19; first | (with_reducible refine (rotl32_v x (-17) _ hx 15 (by decide) (by decide) (by decide)).mono ?_; rintro e w1 ⟨rfl, rfl⟩) | (with_reducible refine (rotl32_v x (-19) _ hx 13 (by decide) (by decide) (by decide)).mono ?_; rintro e w2 ⟨rfl, rfl⟩)))
  go_ret
  exact ⟨rfl, rfl⟩
/-- The block of the rounds' variable: width, count, state, four functions. -/
def RS32 (w : World) (B : Nat) (st : List Int) : Prop := st.length = 8 ∧ (∀ x ∈ st, In32 x) ∧ ∃ t, w.heap[B]? = some (.cells ([Value.int .i64 32, Value.int .i64 64] ++ st.map (Value.int .u32) ++ [Value.func (.func 18) #[] #[], Value.func (.func 20) #[] #[], Value.func (.func 21) #[] #[], Value.func (.func 22) #[] #[]]).toArray t (0, 0))
theorem RS32.lt {w : World} {B : Nat} {st : List Int} (h : RS32 w B st) : B < w.heap.size := by
  obtain ⟨_, _, t, h⟩ := h
  exact (Array.getElem?_eq_some_iff.1 h).1
theorem RS32.but {w w' : World} {B : Nat} {st : List Int} (h : RS32 w B st) {row : Option Nat} (hb : w.grownBy w' row) (hr : some B ≠ row) : RS32 w' B st := by
  have hl := h.lt
  obtain ⟨h1, h2, t, h⟩ := h
  exact ⟨h1, h2, t, by obtain ⟨_, _, _, _, hb5⟩ := hb; rw [hb5 B hl hr]; exact h⟩
theorem RS32.below {w w' : World} {B : Nat} {st : List Int} (h : RS32 w B st) (hb : Below w.heap.size w w') : RS32 w' B st := by
  have hl := h.lt
  obtain ⟨h1, h2, t, h⟩ := h
  exact ⟨h1, h2, t, by rw [hb.block B hl]; exact h⟩
theorem RS32.cell {w : World} {B : Nat} {st : List Int} (h : RS32 w B st) (k : Nat) (v : Value) (hv : ([Value.int .i64 32, Value.int .i64 64] ++ st.map (Value.int .u32) ++ [Value.func (.func 18) #[] #[], Value.func (.func 20) #[] #[], Value.func (.func 21) #[] #[], Value.func (.func 22) #[] #[]])[k]? = some v) : w.cell? ⟨B, k, none⟩ = some v ∧ w.frozen? ⟨B, k, none⟩ = false := by
  obtain ⟨h1, h2, t, h⟩ := h
  have hk := (List.getElem?_eq_some_iff.1 hv).1
  constructor
  · simp [World.cell?, h] at hv ⊢
    exact hv
  · simp [World.frozen?, h]
theorem RS32.width {w : World} {B : Nat} {st : List Int} (h : RS32 w B st) : w.cell? ⟨B, 0, none⟩ = some (.int .i64 32) := (h.cell 0 _ rfl).1
theorem RS32.count {w : World} {B : Nat} {st : List Int} (h : RS32 w B st) : w.cell? ⟨B, 1, none⟩ = some (.int .i64 64) := (h.cell 1 _ rfl).1
theorem RS32.stAt {w : World} {B : Nat} {st : List Int} (h : RS32 w B st) {j : Nat} (hj : j < 8) : w.cell? ⟨B, 2 + j, none⟩ = some (.int .u32 (at0 st j)) ∧ w.frozen? ⟨B, 2 + j, none⟩ = false := by
  refine h.cell (2 + j) _ ?_
  have hl := h.1
  rw [List.getElem?_append_left (by simp; omega), List.getElem?_append_right (by simp)]
  simp [at0, show j < st.length by omega]
theorem RS32.fn {w : World} {B : Nat} {st : List Int} (h : RS32 w B st) : w.cell? ⟨B, 10, none⟩ = some (.func (.func 18) #[] #[]) ∧ w.cell? ⟨B, 11, none⟩ = some (.func (.func 20) #[] #[]) ∧ w.cell? ⟨B, 12, none⟩ = some (.func (.func 21) #[] #[]) ∧ w.cell? ⟨B, 13, none⟩ = some (.func (.func 22) #[] #[]) := by
  have hl := h.1
  refine ⟨(h.cell 10 _ ?_).1, (h.cell 11 _ ?_).1, (h.cell 12 _ ?_).1, (h.cell 13 _ ?_).1⟩ <;> simp [hl]
theorem RS32.set {w : World} {B : Nat} {st : List Int} (h : RS32 w B st) {j : Nat} (hj : j < 8) {x : Int} (hx : In32 x) : RS32 (w.setCell ⟨B, 2 + j, none⟩ (.int .u32 x)) B (st.set j x) := by
  obtain ⟨h1, h2, t, h⟩ := h
  refine ⟨by simp [h1], fun y hy => ?_, t, ?_⟩
  · rcases List.mem_or_eq_of_mem_set hy with k | rfl
    · exact h2 y k
    · exact hx
  · simp only [World.setCell, Array.getElem?_modify, h]
    have e : ∀ (a b v : Value) (l r : List Value), j < l.length → ([a, b] ++ l ++ r).set (2 + j) v = [a, b] ++ l.set j v ++ r := by
      intro a b v l r hl
      rw [Nat.add_comm, List.append_assoc, List.append_assoc]
      show a :: b :: (l ++ r).set j v = a :: b :: (l.set j v ++ r)
      rw [List.set_append_left _ _ hl]
    have e2 := e (Value.int .i64 32) (Value.int .i64 64) (Value.int .u32 x) (st.map (Value.int .u32)) [Value.func (.func 18) #[] #[], Value.func (.func 20) #[] #[], Value.func (.func 21) #[] #[], Value.func (.func 22) #[] #[]] (by simp [h1, hj])
    rw [List.map_set, ← e2]
    simp
theorem RS32.stIn {w : World} {B : Nat} {st : List Int} (h : RS32 w B st) (j : Nat) : In32 (at0 st j) := by
  by_cases hj : j < st.length
  · exact h.2.1 _ (at0_mem hj)
  · unfold In32; simp [at0, hj]
theorem cut32_v (x : Int) (w : World) (B : Nat) (st : List Int) (hr : RS32 w B st) (hx : In64 x) : Calls Tryd.prog 37 #[.pointer (some ⟨B, 0, none⟩), .int .u64 x] w fun e w' => e = .returned (.int .u32 (x / 4294967296)) ∧ w' = w := by
  have h0 := hr.width
  have hl := hr.lt
  obtain ⟨hx0, hx1⟩ := hx
  go_enter Tryd.func37, Tryd.ntmps37
  go_wp2
  go_ret
  exact ⟨rfl, rfl⟩
end Go.Proofs.YtohnicmacmkapaaDoor
