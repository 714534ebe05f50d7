/- The rounds of sha: rotations, the closures of both widths; what the rounds' variable holds. The rounds of sha: begin. The rounds of sha: schedule. The -/
import Derived.Laws.Closers25b
import Derived.Deep.QuietTactic
import Derived.BigQuiet
import Derived.RegionTactic
import Derived.Deep.RegionWith
import Derived.Deep.RegionHeld3
import Derived.StillTailTactics
import Derived.Laws.Bits64
import Derived.ChangeKeysEq
import Derived.Laws.StructEq
import Derived.Deep.MidRow
import Derived.Lib.SlBuf
import Derived.Laws.CopyRow
import Derived.Laws.MakeOwn
import Derived.Test.YtbiboamaigedjaaGreatDoorESD
namespace Go.Proofs.YtbiboamaigedjaaGreatDoor
open Go.RowKit
set_option linter.unusedVariables false
set_option linter.unusedSimpArgs false
set_option maxRecDepth 8000
set_option maxHeartbeats 2000000

def X6 (x s : Int) : Int := bits BinOp.or .u64 (x * 2 ^ s.toNat % 18446744073709551616) (x / 2 ^ (64 - s).toNat)
def Xh (x : Int) : Prop := 0 <= x /\ x < 18446744073709551616
theorem GX (op : BinOp) (a b : Int) : Xh (bits op .u64 a b) := by
  have h := bits_within op .u64 a b
  have h1 : IntKind.min .u64 = 0 := by decide
  have h2 : IntKind.max .u64 = 18446744073709551616 - 1 := by decide
  rw [h1, h2] at h
  unfold Xh
  omega
theorem ZW (x k : Int) (w : World) (hx : Xh x) (s : Int) (hs : bits BinOp.and .u64 (IntKind.u64.wrap k) 63 = s) (h0 : 0 <= s) (h1 : s < 64) :
    Calls Tryz.prog 45 #[.int .u64 x, .int .i64 k] w fun e w' => e = .returned (.int .u64 (X6 x s)) /\ w' = w := by
  obtain ⟨hx0, hx1⟩ := hx
  go_enter Tryz.func45, Tryz.ntmps45
  go_wp2
  go_ret
  exact ⟨rfl, rfl⟩
def JD (x : Int) : Int := bits BinOp.xor .u64 (bits BinOp.xor .u64 (X6 x 36) (X6 x 30)) (X6 x 25)
theorem Qig (x : Int) (w : World) (hx : Xh x) : Calls Tryz.prog 44 #[.int .u64 x] w fun e w' => e = .returned (.int .u64 (JD x)) /\ w' = w := by
  have hx' := hx
  obtain ⟨hx0, hx1⟩ := hx'
  go_enter Tryz.func44, Tryz.ntmps44
  go_wp2_with (first
    | (go_at_call 45; first | (with_reducible refine (ZW x (-28) _ hx 36 (by decide) (by decide) (by decide)).mono ?_; rintro e w1 ⟨rfl, rfl⟩) | (with_reducible refine (ZW x (-34) _ hx 30 (by decide) (by decide) (by decide)).mono ?_; rintro e w2 ⟨rfl, rfl⟩) | (with_reducible refine (ZW x (-39) _ hx 25 (by decide) (by decide) (by decide)).mono ?_; rintro e w3 ⟨rfl, rfl⟩)))
  go_ret
  exact ⟨rfl, rfl⟩
def VM (x : Int) : Int := bits BinOp.xor .u64 (bits BinOp.xor .u64 (X6 x 50) (X6 x 46)) (X6 x 23)
theorem Qie (x : Int) (w : World) (hx : Xh x) : Calls Tryz.prog 46 #[.int .u64 x] w fun e w' => e = .returned (.int .u64 (VM x)) /\ w' = w := by
  have hx' := hx
  obtain ⟨hx0, hx1⟩ := hx'
  go_enter Tryz.func46, Tryz.ntmps46
  go_wp2_with (first
    | (go_at_call 45; first | (with_reducible refine (ZW x (-14) _ hx 50 (by decide) (by decide) (by decide)).mono ?_; rintro e w1 ⟨rfl, rfl⟩) | (with_reducible refine (ZW x (-18) _ hx 46 (by decide) (by decide) (by decide)).mono ?_; rintro e w2 ⟨rfl, rfl⟩) | (with_reducible refine (ZW x (-41) _ hx 23 (by decide) (by decide) (by decide)).mono ?_; rintro e w3 ⟨rfl, rfl⟩)))
  go_ret
  exact ⟨rfl, rfl⟩
def VC (x : Int) : Int := bits BinOp.xor .u64 (bits BinOp.xor .u64 (X6 x 63) (X6 x 56)) (x / 128)
theorem Qhm (x : Int) (w : World) (hx : Xh x) : Calls Tryz.prog 47 #[.int .u64 x] w fun e w' => e = .returned (.int .u64 (VC x)) /\ w' = w := by
  have hx' := hx
  obtain ⟨hx0, hx1⟩ := hx'
  go_enter Tryz.func47, Tryz.ntmps47
  go_wp2_with (first
    | (go_at_call 45; first | (with_reducible refine (ZW x (-1) _ hx 63 (by decide) (by decide) (by decide)).mono ?_; rintro e w1 ⟨rfl, rfl⟩) | (with_reducible refine (ZW x (-8) _ hx 56 (by decide) (by decide) (by decide)).mono ?_; rintro e w2 ⟨rfl, rfl⟩)))
  go_ret
  exact ⟨rfl, rfl⟩
def UX (x : Int) : Int := bits BinOp.xor .u64 (bits BinOp.xor .u64 (X6 x 45) (X6 x 3)) (x / 64)
theorem Qhk (x : Int) (w : World) (hx : Xh x) : Calls Tryz.prog 48 #[.int .u64 x] w fun e w' => e = .returned (.int .u64 (UX x)) /\ w' = w := by
  have hx' := hx
  obtain ⟨hx0, hx1⟩ := hx'
  go_enter Tryz.func48, Tryz.ntmps48
  go_wp2_with (first
    | (go_at_call 45; first | (with_reducible refine (ZW x (-19) _ hx 45 (by decide) (by decide) (by decide)).mono ?_; rintro e w1 ⟨rfl, rfl⟩) | (with_reducible refine (ZW x (-61) _ hx 3 (by decide) (by decide) (by decide)).mono ?_; rintro e w2 ⟨rfl, rfl⟩)))
  go_ret
  exact ⟨rfl, rfl⟩
/-- The block of the rounds' variable: width, count, state, four functions. -/
def XL (w : World) (B : Nat) (st : List Int) : Prop := st.length = 8 /\ (∀ x ∈ st, Xh x) /\ ∃ t, w.heap[B]? = some (.cells ([Value.int .i64 64, Value.int .i64 80] ++ st.map (Value.int .u64) ++ [Value.func (.func 44) #[] #[], Value.func (.func 46) #[] #[], Value.func (.func 47) #[] #[], Value.func (.func 48) #[] #[]]).toArray t (0, 0))
theorem XL.lt {w : World} {B : Nat} {st : List Int} (h : XL w B st) : B < w.heap.size := by
  obtain ⟨_, _, t, h⟩ := h
  exact (Array.getElem?_eq_some_iff.1 h).1
theorem XL.but {w w' : World} {B : Nat} {st : List Int} (h : XL w B st) {row : Option Nat} (hb : w.grownBy w' row) (hr : some B ≠ row) : XL w' B st := by
  have hl := h.lt
  obtain ⟨h1, h2, t, h⟩ := h
  exact ⟨h1, h2, t, by obtain ⟨_, _, _, _, hb5⟩ := hb; rw [hb5 B hl hr]; exact h⟩
theorem XL.below {w w' : World} {B : Nat} {st : List Int} (h : XL w B st) (hb : Below w.heap.size w w') : XL w' B st := by
  have hl := h.lt
  obtain ⟨h1, h2, t, h⟩ := h
  exact ⟨h1, h2, t, by rw [hb.block B hl]; exact h⟩
theorem XL.cell {w : World} {B : Nat} {st : List Int} (h : XL w B st) (k : Nat) (v : Value) (hv : ([Value.int .i64 64, Value.int .i64 80] ++ st.map (Value.int .u64) ++ [Value.func (.func 44) #[] #[], Value.func (.func 46) #[] #[], Value.func (.func 47) #[] #[], Value.func (.func 48) #[] #[]])[k]? = some v) : w.cell? ⟨B, k, none⟩ = some v /\ w.frozen? ⟨B, k, none⟩ = false := by
  obtain ⟨h1, h2, t, h⟩ := h
  have hk := (List.getElem?_eq_some_iff.1 hv).1
  constructor
  . simp [World.cell?, h] at hv ⊢
    exact hv
  . simp [World.frozen?, h]
theorem XL.width {w : World} {B : Nat} {st : List Int} (h : XL w B st) : w.cell? ⟨B, 0, none⟩ = some (.int .i64 64) := (h.cell 0 _ rfl).1
theorem XL.count {w : World} {B : Nat} {st : List Int} (h : XL w B st) : w.cell? ⟨B, 1, none⟩ = some (.int .i64 80) := (h.cell 1 _ rfl).1
theorem XL.stAt {w : World} {B : Nat} {st : List Int} (h : XL w B st) {j : Nat} (hj : j < 8) : w.cell? ⟨B, 2 + j, none⟩ = some (.int .u64 (Qb st j)) /\ w.frozen? ⟨B, 2 + j, none⟩ = false := by
  refine h.cell (2 + j) _ ?_
  have hl := h.1
  rw [List.getElem?_append_left (by simp; omega), List.getElem?_append_right (by simp)]
  simp [Qb, show j < st.length by omega]
theorem XL.fn {w : World} {B : Nat} {st : List Int} (h : XL w B st) : w.cell? ⟨B, 10, none⟩ = some (.func (.func 44) #[] #[]) /\ w.cell? ⟨B, 11, none⟩ = some (.func (.func 46) #[] #[]) /\ w.cell? ⟨B, 12, none⟩ = some (.func (.func 47) #[] #[]) /\ w.cell? ⟨B, 13, none⟩ = some (.func (.func 48) #[] #[]) := by
  have hl := h.1
  refine ⟨(h.cell 10 _ ?_).1, (h.cell 11 _ ?_).1, (h.cell 12 _ ?_).1, (h.cell 13 _ ?_).1⟩ <;> simp [hl]
theorem XL.set {w : World} {B : Nat} {st : List Int} (h : XL w B st) {j : Nat} (hj : j < 8) {x : Int} (hx : Xh x) : XL (w.setCell ⟨B, 2 + j, none⟩ (.int .u64 x)) B (st.set j x) := by
  obtain ⟨h1, h2, t, h⟩ := h
  refine ⟨by simp [h1], fun y hy => ?_, t, ?_⟩
  . rcases List.mem_or_eq_of_mem_set hy with k | rfl
    . exact h2 y k
    . exact hx
  . simp only [World.setCell, Array.getElem?_modify, h]
    have e : ∀ (a b v : Value) (l r : List Value), j < l.length -> ([a, b] ++ l ++ r).set (2 + j) v = [a, b] ++ l.set j v ++ r := by
      intro a b v l r hl
      rw [Nat.add_comm, List.append_assoc, List.append_assoc]
      show a :: b :: (l ++ r).set j v = a :: b :: (l.set j v ++ r)
      rw [List.set_append_left _ _ hl]
    have e2 := e (Value.int .i64 64) (Value.int .i64 80) (Value.int .u64 x) (st.map (Value.int .u64)) [Value.func (.func 44) #[] #[], Value.func (.func 46) #[] #[], Value.func (.func 47) #[] #[], Value.func (.func 48) #[] #[]] (by simp [h1, hj])
    rw [List.map_set, <- e2]
    simp
theorem XL.stIn {w : World} {B : Nat} {st : List Int} (h : XL w B st) (j : Nat) : Xh (Qb st j) := by
  by_cases hj : j < st.length
  . exact h.2.1 _ (JY hj)
  . unfold Xh; simp [Qb, hj]
theorem Qeq (x : Int) (w : World) (B : Nat) (st : List Int) (hr : XL w B st) (hx : Xh x) : Calls Tryz.prog 93 #[.pointer (some ⟨B, 0, none⟩), .int .u64 x] w fun e w' => e = .returned (.int .u64 x) /\ w' = w := by
  have h0 := hr.width
  have hl := hr.lt
  obtain ⟨hx0, hx1⟩ := hx
  go_enter Tryz.func93, Tryz.ntmps93
  go_wp2
  go_ret
  exact ⟨rfl, rfl⟩
def Xp (x s : Int) : Int := bits BinOp.or .u32 (x * 2 ^ s.toNat % 4294967296) (x / 2 ^ (32 - s).toNat)
def XC (x : Int) : Prop := 0 <= x /\ x < 4294967296
theorem Zc (op : BinOp) (a b : Int) : XC (bits op .u32 a b) := by
  have h := bits_within op .u32 a b
  have h1 : IntKind.min .u32 = 0 := by decide
  have h2 : IntKind.max .u32 = 4294967296 - 1 := by decide
  rw [h1, h2] at h
  unfold XC
  omega
theorem ZX (x k : Int) (w : World) (hx : XC x) (s : Int) (hs : bits BinOp.and .u64 (IntKind.u64.wrap k) 31 = s) (h0 : 0 <= s) (h1 : s < 32) :
    Calls Tryz.prog 59 #[.int .u32 x, .int .i64 k] w fun e w' => e = .returned (.int .u32 (Xp x s)) /\ w' = w := by
  obtain ⟨hx0, hx1⟩ := hx
  go_enter Tryz.func59, Tryz.ntmps59
  go_wp2
  go_ret
  exact ⟨rfl, rfl⟩
def JE (x : Int) : Int := bits BinOp.xor .u32 (bits BinOp.xor .u32 (Xp x 30) (Xp x 19)) (Xp x 10)
theorem Qih (x : Int) (w : World) (hx : XC x) : Calls Tryz.prog 58 #[.int .u32 x] w fun e w' => e = .returned (.int .u32 (JE x)) /\ w' = w := by
  have hx' := hx
  obtain ⟨hx0, hx1⟩ := hx'
  go_enter Tryz.func58, Tryz.ntmps58
  go_wp2_with (first
    | (go_at_call 59; first | (with_reducible refine (ZX x (-2) _ hx 30 (by decide) (by decide) (by decide)).mono ?_; rintro e w1 ⟨rfl, rfl⟩) | (with_reducible refine (ZX x (-13) _ hx 19 (by decide) (by decide) (by decide)).mono ?_; rintro e w2 ⟨rfl, rfl⟩) | (with_reducible refine (ZX x (-22) _ hx 10 (by decide) (by decide) (by decide)).mono ?_; rintro e w3 ⟨rfl, rfl⟩)))
  go_ret
  exact ⟨rfl, rfl⟩
def VN (x : Int) : Int := bits BinOp.xor .u32 (bits BinOp.xor .u32 (Xp x 26) (Xp x 21)) (Xp x 7)
theorem Qif (x : Int) (w : World) (hx : XC x) : Calls Tryz.prog 60 #[.int .u32 x] w fun e w' => e = .returned (.int .u32 (VN x)) /\ w' = w := by
  have hx' := hx
  obtain ⟨hx0, hx1⟩ := hx'
  go_enter Tryz.func60, Tryz.ntmps60
  go_wp2_with (first
    | (go_at_call 59; first | (with_reducible refine (ZX x (-6) _ hx 26 (by decide) (by decide) (by decide)).mono ?_; rintro e w1 ⟨rfl, rfl⟩) | (with_reducible refine (ZX x (-11) _ hx 21 (by decide) (by decide) (by decide)).mono ?_; rintro e w2 ⟨rfl, rfl⟩) | (with_reducible refine (ZX x (-25) _ hx 7 (by decide) (by decide) (by decide)).mono ?_; rintro e w3 ⟨rfl, rfl⟩)))
  go_ret
  exact ⟨rfl, rfl⟩
def VD (x : Int) : Int := bits BinOp.xor .u32 (bits BinOp.xor .u32 (Xp x 25) (Xp x 14)) (x / 8)
theorem Qhn (x : Int) (w : World) (hx : XC x) : Calls Tryz.prog 61 #[.int .u32 x] w fun e w' => e = .returned (.int .u32 (VD x)) /\ w' = w := by
  have hx' := hx
  obtain ⟨hx0, hx1⟩ := hx'
  go_enter Tryz.func61, Tryz.ntmps61
  go_wp2_with (first
    | (go_at_call 59; first | (with_reducible refine (ZX x (-7) _ hx 25 (by decide) (by decide) (by decide)).mono ?_; rintro e w1 ⟨rfl, rfl⟩) | (with_reducible refine (ZX x (-18) _ hx 14 (by decide) (by decide) (by decide)).mono ?_; rintro e w2 ⟨rfl, rfl⟩)))
  go_ret
  exact ⟨rfl, rfl⟩
def UY (x : Int) : Int := bits BinOp.xor .u32 (bits BinOp.xor .u32 (Xp x 15) (Xp x 13)) (x / 1024)
theorem Qhl (x : Int) (w : World) (hx : XC x) : Calls Tryz.prog 62 #[.int .u32 x] w fun e w' => e = .returned (.int .u32 (UY x)) /\ w' = w := by
  have hx' := hx
  obtain ⟨hx0, hx1⟩ := hx'
  go_enter Tryz.func62, Tryz.ntmps62
  go_wp2_with (first
    | (go_at_call 59; first | (with_reducible refine (ZX x (-17) _ hx 15 (by decide) (by decide) (by decide)).mono ?_; rintro e w1 ⟨rfl, rfl⟩) | (with_reducible refine (ZX x (-19) _ hx 13 (by decide) (by decide) (by decide)).mono ?_; rintro e w2 ⟨rfl, rfl⟩)))
  go_ret
  exact ⟨rfl, rfl⟩
/-- The block of the rounds' variable: width, count, state, four functions. -/
def XM (w : World) (B : Nat) (st : List Int) : Prop := st.length = 8 /\ (∀ x ∈ st, XC x) /\ ∃ t, w.heap[B]? = some (.cells ([Value.int .i64 32, Value.int .i64 64] ++ st.map (Value.int .u32) ++ [Value.func (.func 58) #[] #[], Value.func (.func 60) #[] #[], Value.func (.func 61) #[] #[], Value.func (.func 62) #[] #[]]).toArray t (0, 0))
theorem XM.lt {w : World} {B : Nat} {st : List Int} (h : XM w B st) : B < w.heap.size := by
  obtain ⟨_, _, t, h⟩ := h
  exact (Array.getElem?_eq_some_iff.1 h).1
theorem XM.but {w w' : World} {B : Nat} {st : List Int} (h : XM w B st) {row : Option Nat} (hb : w.grownBy w' row) (hr : some B ≠ row) : XM w' B st := by
  have hl := h.lt
  obtain ⟨h1, h2, t, h⟩ := h
  exact ⟨h1, h2, t, by obtain ⟨_, _, _, _, hb5⟩ := hb; rw [hb5 B hl hr]; exact h⟩
theorem XM.below {w w' : World} {B : Nat} {st : List Int} (h : XM w B st) (hb : Below w.heap.size w w') : XM w' B st := by
  have hl := h.lt
  obtain ⟨h1, h2, t, h⟩ := h
  exact ⟨h1, h2, t, by rw [hb.block B hl]; exact h⟩
theorem XM.cell {w : World} {B : Nat} {st : List Int} (h : XM w B st) (k : Nat) (v : Value) (hv : ([Value.int .i64 32, Value.int .i64 64] ++ st.map (Value.int .u32) ++ [Value.func (.func 58) #[] #[], Value.func (.func 60) #[] #[], Value.func (.func 61) #[] #[], Value.func (.func 62) #[] #[]])[k]? = some v) : w.cell? ⟨B, k, none⟩ = some v /\ w.frozen? ⟨B, k, none⟩ = false := by
  obtain ⟨h1, h2, t, h⟩ := h
  have hk := (List.getElem?_eq_some_iff.1 hv).1
  constructor
  . simp [World.cell?, h] at hv ⊢
    exact hv
  . simp [World.frozen?, h]
theorem XM.width {w : World} {B : Nat} {st : List Int} (h : XM w B st) : w.cell? ⟨B, 0, none⟩ = some (.int .i64 32) := (h.cell 0 _ rfl).1
theorem XM.count {w : World} {B : Nat} {st : List Int} (h : XM w B st) : w.cell? ⟨B, 1, none⟩ = some (.int .i64 64) := (h.cell 1 _ rfl).1
theorem XM.stAt {w : World} {B : Nat} {st : List Int} (h : XM w B st) {j : Nat} (hj : j < 8) : w.cell? ⟨B, 2 + j, none⟩ = some (.int .u32 (Qb st j)) /\ w.frozen? ⟨B, 2 + j, none⟩ = false := by
  refine h.cell (2 + j) _ ?_
  have hl := h.1
  rw [List.getElem?_append_left (by simp; omega), List.getElem?_append_right (by simp)]
  simp [Qb, show j < st.length by omega]
theorem XM.fn {w : World} {B : Nat} {st : List Int} (h : XM w B st) : w.cell? ⟨B, 10, none⟩ = some (.func (.func 58) #[] #[]) /\ w.cell? ⟨B, 11, none⟩ = some (.func (.func 60) #[] #[]) /\ w.cell? ⟨B, 12, none⟩ = some (.func (.func 61) #[] #[]) /\ w.cell? ⟨B, 13, none⟩ = some (.func (.func 62) #[] #[]) := by
  have hl := h.1
  refine ⟨(h.cell 10 _ ?_).1, (h.cell 11 _ ?_).1, (h.cell 12 _ ?_).1, (h.cell 13 _ ?_).1⟩ <;> simp [hl]
theorem XM.set {w : World} {B : Nat} {st : List Int} (h : XM w B st) {j : Nat} (hj : j < 8) {x : Int} (hx : XC x) : XM (w.setCell ⟨B, 2 + j, none⟩ (.int .u32 x)) B (st.set j x) := by
  obtain ⟨h1, h2, t, h⟩ := h
  refine ⟨by simp [h1], fun y hy => ?_, t, ?_⟩
  . rcases List.mem_or_eq_of_mem_set hy with k | rfl
    . exact h2 y k
    . exact hx
  . simp only [World.setCell, Array.getElem?_modify, h]
    have e : ∀ (a b v : Value) (l r : List Value), j < l.length -> ([a, b] ++ l ++ r).set (2 + j) v = [a, b] ++ l.set j v ++ r := by
      intro a b v l r hl
      rw [Nat.add_comm, List.append_assoc, List.append_assoc]
      show a :: b :: (l ++ r).set j v = a :: b :: (l.set j v ++ r)
      rw [List.set_append_left _ _ hl]
    have e2 := e (Value.int .i64 32) (Value.int .i64 64) (Value.int .u32 x) (st.map (Value.int .u32)) [Value.func (.func 58) #[] #[], Value.func (.func 60) #[] #[], Value.func (.func 61) #[] #[], Value.func (.func 62) #[] #[]] (by simp [h1, hj])
    rw [List.map_set, <- e2]
    simp
theorem XM.stIn {w : World} {B : Nat} {st : List Int} (h : XM w B st) (j : Nat) : XC (Qb st j) := by
  by_cases hj : j < st.length
  . exact h.2.1 _ (JY hj)
  . unfold XC; simp [Qb, hj]
theorem Qer (x : Int) (w : World) (B : Nat) (st : List Int) (hr : XM w B st) (hx : Xh x) : Calls Tryz.prog 101 #[.pointer (some ⟨B, 0, none⟩), .int .u64 x] w fun e w' => e = .returned (.int .u32 (x / 4294967296)) /\ w' = w := by
  have h0 := hr.width
  have hl := hr.lt
  obtain ⟨hx0, hx1⟩ := hx
  go_enter Tryz.func101, Tryz.ntmps101
  go_wp2
  go_ret
  exact ⟨rfl, rfl⟩
def Xc : List Int := [7640891576956012808, 13503953896175478587, 4354685564936845355, 11912009170470909681, 5840696475078001361, 11170449401992604703, 2270897969802886507, 6620516959819538809]
def Q7 : List Int := [4794697086780616226, 8158064640168781261, 13096744586834688815, 16840607885511220156, 4131703408338449720, 6480981068601479193, 10538285296894168987, 12329834152419229976, 15566598209576043074, 1334009975649890238, 2608012711638119052, 6128411473006802146, 8268148722764581231, 9286055187155687089, 11230858885718282805, 13951009754708518548, 16472876342353939154, 17275323862435702243, 1135362057144423861, 2597628984639134821, 3308224258029322869, 5365058923640841347, 6679025012923562964, 8573033837759648693, 10970295158949994411, 12119686244451234320, 12683024718118986047, 13788192230050041572, 14330467153632333762, 15395433587784984357, 489312712824947311, 1452737877330783856, 2861767655752347644, 3322285676063803686, 5560940570517711597, 5996557281743188959, 7280758554555802590, 8532644243296465576, 9350256976987008742, 10552545826968843579, 11727347734174303076, 12113106623233404929, 14000437183269869457, 14369950271660146224, 15101387698204529176, 15463397548674623760, 17586052441742319658, 1182934255886127544, 1847814050463011016, 2177327727835720531, 2830643537854262169, 3796741975233480872, 4115178125766777443, 5681478168544905931, 6601373596472566643, 7507060721942968483, 8399075790359081724, 8693463985226723168, 9568029438360202098, 10144078919501101548, 10430055236837252648, 11840083180663258601, 13761210420658862357, 14299343276471374635, 14566680578165727644, 15097957966210449927, 16922976911328602910, 17689382322260857208, 500013540394364858, 748580250866718886, 1242879168328830382, 1977374033974150939, 2944078676154940804, 3659926193048069267, 4368137639120453308, 4836135668995329356, 5532061633213252278, 6448918945643986474, 6902733635092675308, 7801388544844847127]
/-- What the tables of sha hold. -/
structure Zl (w : World) : Prop where
  sq : ∀ k, k < 8 -> w.cell? ⟨1, k, none⟩ = some (.int .u64 (Qb Xc k))
  cu : ∀ k, k < 80 -> w.cell? ⟨5, k, none⟩ = some (.int .u64 (Qb Q7 k))
theorem Zl.lt {w : World} (h : Zl w) : 1 < w.heap.size /\ 5 < w.heap.size := ⟨World.block_lt_of_cell? w _ (h.sq 0 (by decide)), World.block_lt_of_cell? w _ (h.cu 0 (by decide))⟩
theorem Zl.but {w w' : World} (h : Zl w) {B : Nat} (hb : w.grownBy w' (some B)) (hs : 1 ≠ B) (hc : 5 ≠ B) : Zl w' :=
  ⟨fun k hk => hb.cell (h.sq k hk) (by simpa using hs), fun k hk => hb.cell (h.cu k hk) (by simpa using hc)⟩
theorem Zl.below {w w' : World} (h : Zl w) (hb : Below w.heap.size w w') : Zl w' :=
  ⟨fun k hk => by rw [hb.cell h.lt.1]; exact h.sq k hk, fun k hk => by rw [hb.cell h.lt.2]; exact h.cu k hk⟩
theorem Fc : ∀ k, k < 8 -> Xh (Qb Xc k) := by unfold Xh; decide
theorem QbP : ∀ k, k < 80 -> Xh (Qb Q7 k) := by unfold Xh; decide
theorem Xn {w w' : World} {B : Nat} (h : w.grownBy w' (some B)) (o : Nat) (v : Value) : w.grownBy (w'.setCell ⟨B, o, none⟩ v) (some B) := by
  refine ⟨h.os, h.tape, h.output, ?_, fun k hk hne => ?_⟩
  . have := h.size
    simpa [World.setCell] using this
  . rw [heap_setCell_other w' ⟨B, o, none⟩ k v (by simpa using hne)]
    exact h.block k hk hne
theorem ZC {w w' : World} {row : Option Nat} (h : w.grownBy w' row) : w.grownBy w'.drew row := ⟨h.os, h.tape, h.output, h.size, h.block⟩
def Q2 : List Int := (List.range 8).map fun k => Qb Xc k
theorem F3 (k : Nat) (hk : k < 8) : Qb Q2 k = Qb Xc k := by simp [Q2, Qb, hk]
theorem QfE (w : World) (B : Nat) (st : List Int) (hr : XL w B st) (hT : Zl w) (hs : 1 ≠ B) (hc : 5 ≠ B) :
    Calls Tryz.prog 49 #[.pointer (some ⟨B, 0, none⟩)] w fun e w' => (∃ v, e = .returned v) /\ XL w' B Q2 /\ w.grownBy w' (some B) := by
  go_enter Tryz.func49, Tryz.ntmps49
  go_wp2
  go_loopw [3] (fun i wr => ∃ (k : Nat) (st : List Int), k <= 8 /\ i = .int .i64 k /\ XL wr B st /\ w.grownBy wr (some B) /\ ∀ k', k' < k -> Qb st k' = Qb Q2 k') (fun i _ => 8 - (intOf i).toNat)
  case atStart => exact ⟨0, st, by omega, rfl, hr, World.grownBy.refl _ _, fun k' h => by omega⟩
  case round =>
    obtain ⟨k, st, hk, rfl, hr, hg, hst⟩ := hrel
    have hT' : Zl wr := hT.but hg hs hc
    have hl := hr.lt
    by_cases hlt : k < 8
    . have c0 := hT'.sq k hlt
      obtain ⟨c1, f1⟩ := hr.stAt hlt
      have hin := Fc k hlt
      have hcut := fun W (h : XL W B st) => Qeq (Qb Xc k) W B st h hin
      go_wp2
      go_region_with (go_at_call 93; refine (hcut _ (by first | exact hr | exact hr.drew)).mono ?_; rintro e w9 ⟨rfl, rfl⟩)
      go_wp2
      refine ⟨⟨k + 1, st.set k (Qb Q2 k), by omega, by go_num, ?_, ?_, fun k' hk' => ?_⟩, by simp only [intOf]; omega⟩
      . have h := hr.set (j := k) hlt (x := Qb Xc k) (by unfold Xh at hin; unfold Xh; omega)
        rw [F3 k hlt]
        exact h
      . exact ZC (Xn hg _ _)
      . rw [Zv st k k' _ (by rw [hr.1]; exact hlt)]
        by_cases e : k' = k
        . rw [if_pos e, e]
        . rw [if_neg e]; exact hst k' (by omega)
    . obtain rfl : k = 8 := by omega
      have e : st = Q2 := QZ (by rw [hr.1]; rfl) fun j h => hst j (by rw [hr.1] at h; exact h)
      subst e
      go_wp2
      refine bodyPost_end (v := .tuple #[]) (by simp [results, Tryz.results49]) rfl ?_
      exact ⟨⟨_, rfl⟩, hr, hg⟩
def Q3 : List Int := (List.range 8).map fun k => Qb Xc k / 4294967296
theorem F4 (k : Nat) (hk : k < 8) : Qb Q3 k = Qb Xc k / 4294967296 := by simp [Q3, Qb, hk]
theorem QfF (w : World) (B : Nat) (st : List Int) (hr : XM w B st) (hT : Zl w) (hs : 1 ≠ B) (hc : 5 ≠ B) :
    Calls Tryz.prog 63 #[.pointer (some ⟨B, 0, none⟩)] w fun e w' => (∃ v, e = .returned v) /\ XM w' B Q3 /\ w.grownBy w' (some B) := by
  go_enter Tryz.func63, Tryz.ntmps63
  go_wp2
  go_loopw [3] (fun i wr => ∃ (k : Nat) (st : List Int), k <= 8 /\ i = .int .i64 k /\ XM wr B st /\ w.grownBy wr (some B) /\ ∀ k', k' < k -> Qb st k' = Qb Q3 k') (fun i _ => 8 - (intOf i).toNat)
  case atStart => exact ⟨0, st, by omega, rfl, hr, World.grownBy.refl _ _, fun k' h => by omega⟩
  case round =>
    obtain ⟨k, st, hk, rfl, hr, hg, hst⟩ := hrel
    have hT' : Zl wr := hT.but hg hs hc
    have hl := hr.lt
    by_cases hlt : k < 8
    . have c0 := hT'.sq k hlt
      obtain ⟨c1, f1⟩ := hr.stAt hlt
      have hin := Fc k hlt
      have hcut := fun W (h : XM W B st) => Qer (Qb Xc k) W B st h hin
      go_wp2
      go_region_with (go_at_call 101; refine (hcut _ (by first | exact hr | exact hr.drew)).mono ?_; rintro e w9 ⟨rfl, rfl⟩)
      go_wp2
      refine ⟨⟨k + 1, st.set k (Qb Q3 k), by omega, by go_num, ?_, ?_, fun k' hk' => ?_⟩, by simp only [intOf]; omega⟩
      . have h := hr.set (j := k) hlt (x := Qb Xc k / 4294967296) (by unfold Xh at hin; unfold XC; omega)
        rw [F4 k hlt]
        exact h
      . exact ZC (Xn hg _ _)
      . rw [Zv st k k' _ (by rw [hr.1]; exact hlt)]
        by_cases e : k' = k
        . rw [if_pos e, e]
        . rw [if_neg e]; exact hst k' (by omega)
    . obtain rfl : k = 8 := by omega
      have e : st = Q3 := QZ (by rw [hr.1]; rfl) fun j h => hst j (by rw [hr.1] at h; exact h)
      subst e
      go_wp2
      refine bodyPost_end (v := .tuple #[]) (by simp [results, Tryz.results63]) rfl ?_
      exact ⟨⟨_, rfl⟩, hr, hg⟩
theorem UE {K : IntKind} {w : World} {B : Nat} {zs : List Int} (h : Y4 K w B zs) : Y4 K w.drew B zs := h
theorem Zp {B : Nat} {a w : World} (h : Below B a w) {g : Nat} (hg : B <= g) (cs : Array Value) : Below B a (w.setRow g cs) := by
  refine ⟨h.os, h.tape, h.output, ?_, fun k hk => ?_⟩
  . have := h.size
    simpa [World.setRow] using this
  . rw [setRow_other w g k cs (by omega)]
    exact h.block k hk
/-- Qh as one number, the highest first. -/
def Gx : List Int -> Int := fun l => l.foldl (fun x c => x * 256 + c) 0
theorem JG (l : List Int) (c : Int) : Gx (l ++ [c]) = Gx l * 256 + c := by simp [Gx]
theorem Kz : ∀ (n : Nat) (l : List Int), l.length = n -> Qh l -> 0 <= Gx l /\ Gx l < 256 ^ n
  | 0, l, h, _ => by
    obtain rfl : l = [] := List.length_eq_zero_iff.1 h
    simp [Gx]
  | n + 1, l, h, hb => by
    have hne : l ≠ [] := by rintro rfl; simp at h
    rw [<- List.dropLast_concat_getLast hne] at hb ⊢
    have ih := Kz n l.dropLast (by simp [h]) (fun x hx => hb x (by simp [hx]))
    have hc := hb (l.getLast hne) (by simp)
    rw [JG, Int.pow_succ]
    omega
theorem XE {x : Int} (h0 : 0 <= x) (h1 : x < 4611686018427387904) : IntKind.i64.wrap x = x := by
  simp [IntKind.wrap, IntKind.bits, IntKind.signed]
  omega
theorem V8 (n j : Nat) : Qb (List.replicate n 0) j = 0 := by
  unfold Qb
  rw [List.getElem?_replicate]
  split <;> rfl
theorem ZM (l : List Int) (t : Nat) (h : t < l.length) : l.take (t + 1) = l.take t ++ [Qb l t] := by
  rw [List.take_add_one, F7 h]; simp [h]
theorem HN : (Tryz.prog.info? 125).bind (·.zero) = some (.agg (Array.replicate 80 (Value.int .u64 0))) := by kernel_rfl
theorem K9 : (Tryz.prog.info? 125).map (·.size) = some 80 := by kernel_rfl
theorem Qdu : Tryz.prog.underlying 125 = some (.array 80 47) := by kernel_rfl
theorem Dt (x c : Int) (hx : 0 <= x /\ x < 72057594037927936) (hc : 0 <= c /\ c <= 255) : bits BinOp.or .u64 (x * 256) c = x * 256 + c := by
  obtain ⟨a, rfl⟩ := Int.eq_ofNat_of_zero_le hx.1
  obtain ⟨b, rfl⟩ := Int.eq_ofNat_of_zero_le hc.1
  have h := u64_or_nat (a * 256) b (by omega) (by omega)
  rw [show (((a * 256 : Nat) : Int)) = (a : Int) * 256 by simp] at h
  rw [h, Kr (a * 256) b 8 (by omega) (by omega)]
  simp
/-- The words of a block. -/
def Kb (zs : List Int) (i : Nat) : Int := Gx ((zs.drop (i * 8)).take 8)
theorem QeI {zs : List Int} (hb : Qh zs) {i : Nat} (h : (i + 1) * 8 <= zs.length) : Xh (Kb zs i) := by
  have := Kz 8 ((zs.drop (i * 8)).take 8) (by simp; omega) (fun x hx => hb x (List.mem_of_mem_drop (List.mem_of_mem_take hx)))
  unfold Xh Kb
  omega
def YL (m : List Int) (i : Nat) : Int := (Qb m (i - 16) + VC (Qb m (i - 15)) + Qb m (i - 7) + UX (Qb m (i - 2))) % 18446744073709551616
def Qf (zs : List Int) : Nat -> List Int
  | 0 => (List.range 16).map (Kb zs) ++ List.replicate 64 0
  | k + 1 => (Qf zs k).set (16 + k) (YL (Qf zs k) (16 + k))
theorem Xz (zs : List Int) : ∀ k, (Qf zs k).length = 80
  | 0 => by simp [Qf]
  | k + 1 => by simp [Qf, Xz zs k]
theorem UM {zs : List Int} (hb : Qh zs) (hl : zs.length = 128) : ∀ k x, x ∈ Qf zs k -> Xh x
  | 0, x, hx => by
    rcases List.mem_append.1 hx with h | h
    . obtain ⟨i, hi, rfl⟩ := List.mem_map.1 h
      exact QeI hb (by have := List.mem_range.1 hi; omega)
    . obtain ⟨-, rfl⟩ := List.mem_replicate.1 h
      unfold Xh; omega
  | k + 1, x, hx => by
    rcases List.mem_or_eq_of_mem_set hx with h | rfl
    . exact UM hb hl k x h
    . unfold Xh YL; omega
set_option maxHeartbeats 1000000 in
theorem Dg (w : World) (B : Nat) (st : List Int) (hr : XL w B st) (v : Value) (zs : List Int) (hv : UF .u8 w v zs) (hb : Qh zs) (hl : zs.length = 128) :
    Calls Tryz.prog 126 #[.pointer (some ⟨B, 0, none⟩), v] w fun e w' => e = .returned (XN .u64 (Qf zs 64)) /\ Below w.heap.size w w' := by
  obtain ⟨a, cap, rfl, hcap, hmax, hcell, -⟩ := hv
  obtain ⟨x, o, rfl, -⟩ := hcell 0 (by omega)
  replace hcell : ∀ k, k < 128 -> w.cell? ⟨x, o + k, none⟩ = some (.int .u8 (Qb zs k)) := fun k hk => by
    obtain ⟨x', o', e, h⟩ := hcell k (by omega)
    cases e
    exact h
  have hx : x < w.heap.size := World.block_lt_of_cell? w _ (hcell 0 (by omega))
  have hB := hr.lt
  have hwd := hr.width
  rw [hl] at hcap ⊢
  go_enter Tryz.func126, Tryz.ntmps126
  go_wp2_with (first
    | (with_reducible refine YF 4 ?_; refine Xk rfl 125 rfl .u64 80 HN ?_; intro w1 A1 s1 b1)
    | (with_reducible refine YF 5 ?_; refine Xk rfl 125 rfl .u64 80 HN ?_; intro w2 A2 s2 b2; replace A1 := A1.below b2; have BB := Qk b1 b2; replace hwd := (hr.below BB).width))
  go_loopw [17] (fun i wr => ∃ (k : Nat) (ms : List Int), k <= 16 /\ i = .int .i64 k /\ Y4 .u64 wr w.heap.size (List.replicate 80 0) /\ Y4 .u64 wr w1.heap.size ms /\ ms.length = 80 /\ (∀ j, j < 80 -> Qb ms j = if j < k then Kb zs j else 0) /\ Below w.heap.size w wr) (fun i _ => 16 - (intOf i).toNat)
  case atStart => exact ⟨0, List.replicate 80 0, by omega, rfl, A1, A2, by simp, fun j h => by rw [V8, if_neg (by omega)], BB⟩
  case round =>
    clear A1 A2 BB hwd
    obtain ⟨k, ms, hk, rfl, A1, A2, hml, hms, BB⟩ := hrel
    by_cases hlt : k < 16
    . have hc : ∀ j, j < 8 -> wr.cell? ⟨x, o + k * 8 + j, none⟩ = some (.int .u8 (Qb ((zs.drop (k * 8)).take 8) j)) := fun j hj => by
        have h1 := hcell (k * 8 + j) (by omega)
        rw [<- Nat.add_assoc] at h1
        rw [BB.cell hx, h1]
        simp [Qb, hj]
      have hbp : Qh ((zs.drop (k * 8)).take 8) := fun y hy => hb y (List.mem_of_mem_drop (List.mem_of_mem_take hy))
      have hlp : ((zs.drop (k * 8)).take 8).length = 8 := by simp; omega
      generalize hps : (zs.drop (k * 8)).take 8 = ps at *
      clear hcell
      go_wp2
      have hlen : (k + 1) * 8 - k * 8 = 8 := by omega
      simp only [hlen]
      go_loopw [8, 30] (fun y j wq => ∃ (t : Nat), t <= 8 /\ j = .int .i64 t /\ y = .int .u64 (Gx (ps.take t)) /\ wq = wr) (fun _ j _ => 8 - (intOf j).toNat)
      case atStart => exact ⟨0, by omega, rfl, rfl, rfl⟩
      case round =>
        obtain ⟨t, ht, rfl, rfl, rfl⟩ := hrel
        by_cases hlt2 : t < 8
        . have hc0 := hc t hlt2
          have hbt := Kz t (ps.take t) (by simp [hlp]; omega) (fun y hy => hbp y (List.mem_of_mem_take hy))
          have hcb := hbp.at t
          have hsn : Gx (ps.take (t + 1)) = Gx (ps.take t) * 256 + Qb ps t := by rw [ZM ps t (by omega), JG]
          generalize Qb ps t = c at *
          have hyb : 0 <= Gx (ps.take t) /\ Gx (ps.take t) < 72057594037927936 := by
            have hp : (256 : Int) ^ t <= 256 ^ 7 := by
              rcases (by omega : t = 0 \/ t = 1 \/ t = 2 \/ t = 3 \/ t = 4 \/ t = 5 \/ t = 6 \/ t = 7) with rfl | rfl | rfl | rfl | rfl | rfl | rfl | rfl <;> decide
            omega
          generalize Gx (ps.take t) = y at *
          have ho := Dt y c hyb hcb
          have hy0 := hyb.1
          have hy1 := hyb.2
          replace hsn := Lib.hid hsn
          clear hbt hyb hc
          go_wp2
          refine ⟨⟨t + 1, by omega, by go_num, ?_, by trivial⟩, by simp only [intOf]; omega⟩
          rw [hsn.out]
        . obtain rfl : t = 8 := by omega
          have hw : Gx (ps.take 8) = Kb zs k := by rw [<- hlp, List.take_length, <- hps]; rfl
          rw [hw]
          have f0 := A2.free (k := k) (by omega)
          have c0 := A2.cell (k := k) (by omega)
          clear hc
          go_wp2
          refine ⟨⟨k + 1, ms.set k (Kb zs k), by omega, by go_num, A1.setOther (by omega) _ _, A2.set _ _, by simp [hml], fun j hj => ?_, BB.setCell (by show w.heap.size <= w1.heap.size; omega) _⟩, by simp only [intOf]; omega⟩
          rw [Zv ms k j _ (by omega)]
          by_cases e : j = k
          . rw [if_pos e, if_pos (by omega), e]
          . rw [if_neg e, hms j hj]
            by_cases e2 : j < k
            . rw [if_pos e2, if_pos (by omega)]
            . rw [if_neg e2, if_neg (by omega)]
    . obtain rfl : k = 16 := by omega
      have e : ms = Qf zs 0 := QZ (by rw [hml]; rfl) fun j h => by
        rw [hml] at h
        rw [hms j h]
        by_cases e : j < 16
        . rw [if_pos e]
          unfold Qf Qb
          rw [List.getElem?_append_left (by simpa using e)]; simp [e]
        . rw [if_neg e]
          have e2 := V8 64 (j - 16)
          unfold Qf
          unfold Qb at e2 ⊢
          rw [List.getElem?_append_right (by simpa using e), List.length_map, List.length_range, e2]
      subst e
      clear hms hml hcell
      have hsl := Xz zs
      have hsi := UM hb hl
      go_wp2
      go_loopw [11] (fun i wr => ∃ (i' : Nat), 16 <= i' /\ i' <= 80 /\ i = .int .i64 i' /\ Y4 .u64 wr w.heap.size (List.replicate 80 0) /\ Y4 .u64 wr w1.heap.size (Qf zs (i' - 16)) /\ Below w.heap.size w wr) (fun i _ => 80 - (intOf i).toNat)
      case atStart => exact ⟨16, by omega, by omega, rfl, A1, A2, BB⟩
      case round =>
        clear A1 A2 BB
        obtain ⟨i, hi0, hi1, rfl, A1, A2, BB⟩ := hrel
        have hr' := hr.below BB
        have hct := hr'.count
        by_cases hlt : i < 80
        . have hln := hsl (i - 16)
          have hin := hsi (i - 16)
          have hst : Qf zs (i + 1 - 16) = (Qf zs (i - 16)).set i (YL (Qf zs (i - 16)) i) := by
            rw [show i + 1 - 16 = (i - 16) + 1 by omega]
            show (Qf zs (i - 16)).set (16 + (i - 16)) (YL (Qf zs (i - 16)) (16 + (i - 16))) = _
            rw [show 16 + (i - 16) = i by omega]
          generalize Qf zs (i - 16) = ms at *
          have hat : ∀ j, j < 80 -> Xh (Qb ms j) := fun j hj => hin _ (JY (by omega))
          obtain ⟨j1, e1, n1⟩ : ∃ j : Nat, IntKind.i64.wrap ((i : Int) - 16) = (j : Int) /\ i - 16 = j := ⟨i - 16, by rw [XE (by omega) (by omega)]; omega, rfl⟩
          obtain ⟨j2, e2, n2⟩ : ∃ j : Nat, IntKind.i64.wrap ((i : Int) - 15) = (j : Int) /\ i - 15 = j := ⟨i - 15, by rw [XE (by omega) (by omega)]; omega, rfl⟩
          obtain ⟨j3, e3, n3⟩ : ∃ j : Nat, IntKind.i64.wrap ((i : Int) - 7) = (j : Int) /\ i - 7 = j := ⟨i - 7, by rw [XE (by omega) (by omega)]; omega, rfl⟩
          obtain ⟨j4, e4, n4⟩ : ∃ j : Nat, IntKind.i64.wrap ((i : Int) - 2) = (j : Int) /\ i - 2 = j := ⟨i - 2, by rw [XE (by omega) (by omega)]; omega, rfl⟩
          have b1 : (j1 : Int) < 80 := by omega
          have b2' : (j2 : Int) < 80 := by omega
          have b3 : (j3 : Int) < 80 := by omega
          have b4 : (j4 : Int) < 80 := by omega
          have b5 : (i : Int) < 80 := by omega
          have c1 := A2.cell (k := j1) (by omega)
          have c2 := A2.cell (k := j2) (by omega)
          have c3 := A2.cell (k := j3) (by omega)
          have c4 := A2.cell (k := j4) (by omega)
          have nx : YL ms i = (Qb ms j1 + VC (Qb ms j2) + Qb ms j3 + UX (Qb ms j4)) % 18446744073709551616 := by unfold YL; rw [n1, n2, n3, n4]
          replace nx := Lib.hid nx
          clear n1 n2 n3 n4
          have c5 := A2.cell (k := i) (by omega)
          have f5 := A2.free (k := i) (by omega)
          have HA := fun W => Qhm (Qb ms j2) W (hat _ (by omega))
          have HB := fun W => Qhk (Qb ms j4) W (hat _ (by omega))
          obtain ⟨f10, f11, f12, f13⟩ := hr'.fn
          replace hst := Lib.hid hst
          clear hin hsi hsl
          go_wp2
          go_still_tail 31, (by kernel_rfl)
          still_call (HA _)
          repeat still_step
          still_call (HB _)
          repeat still_step
          refine wpStill_nil ?_
          change wpList _ _ _ _ _ wr.drew
          go_wp2
          refine ⟨?_, ?_⟩
          . refine Exists.intro (Value.int .i64 ((i : Int) + 1)) ?_
            repeat apply Exists.intro (α := Value)
            refine ⟨⟨i + 1, by omega, by omega, by go_num, ?_, ?_, ?_⟩, rfl⟩
            . exact (UE A1).setOther (by omega) _ _
            . rw [hst.out, nx.out]
              try simp only [IntKind.wrap_u64, Int.emod_add_emod]
              exact UE (A2.set i _)
            . exact BB.drew.setCell (by show w.heap.size <= w1.heap.size; omega) _
          . show 80 - (intOf (Value.int .i64 ((i : Int) + 1))).toNat < 80 - (intOf (Value.int .i64 (i : Int))).toNat
            simp only [intOf]; omega
        . obtain rfl : i = 80 := by omega
          have hln := hsl (80 - 16)
          go_wp2_with (first
            | (with_reducible refine YF 83 ?_; refine Y7 rfl 125 _ rfl 80 47 Qdu K9 w1.heap.size rfl .u64 _ A2 hln ?_)
            | (with_reducible refine Hg (o := ⟨_, .store 125 _ _, _, _, _, _⟩) ?_; refine Zm rfl 125 _ _ rfl 80 K9 w.heap.size rfl .u64 _ _ rfl A1 (by simp) hln ?_; intro A3))
          refine bodyPost_ret (YW rfl _ 80 47 Qdu K9 w.heap.size rfl .u64 _ A3 hln) rfl ?_
          exact ⟨rfl, Zp BB (Nat.le_refl _) _⟩
theorem HO : (Tryz.prog.info? 139).bind (·.zero) = some (.agg (Array.replicate 80 (Value.int .u32 0))) := by kernel_rfl
theorem Ga : (Tryz.prog.info? 139).map (·.size) = some 80 := by kernel_rfl
theorem Qdv : Tryz.prog.underlying 139 = some (.array 80 85) := by kernel_rfl
theorem Qjb (x c : Int) (hx : 0 <= x /\ x < 16777216) (hc : 0 <= c /\ c <= 255) : bits BinOp.or .u32 (x * 256) c = x * 256 + c := by
  obtain ⟨a, rfl⟩ := Int.eq_ofNat_of_zero_le hx.1
  obtain ⟨b, rfl⟩ := Int.eq_ofNat_of_zero_le hc.1
  have h := u32_or_nat (a * 256) b (by omega) (by omega)
  rw [show (((a * 256 : Nat) : Int)) = (a : Int) * 256 by simp] at h
  rw [h, Kr (a * 256) b 8 (by omega) (by omega)]
  simp
/-- The words of a block. -/
def Kc (zs : List Int) (i : Nat) : Int := Gx ((zs.drop (i * 4)).take 4)
theorem QeJ {zs : List Int} (hb : Qh zs) {i : Nat} (h : (i + 1) * 4 <= zs.length) : XC (Kc zs i) := by
  have := Kz 4 ((zs.drop (i * 4)).take 4) (by simp; omega) (fun x hx => hb x (List.mem_of_mem_drop (List.mem_of_mem_take hx)))
  unfold XC Kc
  omega
def YM (m : List Int) (i : Nat) : Int := (Qb m (i - 16) + VD (Qb m (i - 15)) + Qb m (i - 7) + UY (Qb m (i - 2))) % 4294967296
def Qg (zs : List Int) : Nat -> List Int
  | 0 => (List.range 16).map (Kc zs) ++ List.replicate 64 0
  | k + 1 => (Qg zs k).set (16 + k) (YM (Qg zs k) (16 + k))
theorem XA (zs : List Int) : ∀ k, (Qg zs k).length = 80
  | 0 => by simp [Qg]
  | k + 1 => by simp [Qg, XA zs k]
theorem UN {zs : List Int} (hb : Qh zs) (hl : zs.length = 64) : ∀ k x, x ∈ Qg zs k -> XC x
  | 0, x, hx => by
    rcases List.mem_append.1 hx with h | h
    . obtain ⟨i, hi, rfl⟩ := List.mem_map.1 h
      exact QeJ hb (by have := List.mem_range.1 hi; omega)
    . obtain ⟨-, rfl⟩ := List.mem_replicate.1 h
      unfold XC; omega
  | k + 1, x, hx => by
    rcases List.mem_or_eq_of_mem_set hx with h | rfl
    . exact UN hb hl k x h
    . unfold XC YM; omega
set_option maxHeartbeats 1000000 in
theorem Dh (w : World) (B : Nat) (st : List Int) (hr : XM w B st) (v : Value) (zs : List Int) (hv : UF .u8 w v zs) (hb : Qh zs) (hl : zs.length = 64) :
    Calls Tryz.prog 128 #[.pointer (some ⟨B, 0, none⟩), v] w fun e w' => e = .returned (XN .u32 (Qg zs 48)) /\ Below w.heap.size w w' := by
  obtain ⟨a, cap, rfl, hcap, hmax, hcell, -⟩ := hv
  obtain ⟨x, o, rfl, -⟩ := hcell 0 (by omega)
  replace hcell : ∀ k, k < 64 -> w.cell? ⟨x, o + k, none⟩ = some (.int .u8 (Qb zs k)) := fun k hk => by
    obtain ⟨x', o', e, h⟩ := hcell k (by omega)
    cases e
    exact h
  have hx : x < w.heap.size := World.block_lt_of_cell? w _ (hcell 0 (by omega))
  have hB := hr.lt
  have hwd := hr.width
  rw [hl] at hcap ⊢
  go_enter Tryz.func128, Tryz.ntmps128
  go_wp2_with (first
    | (with_reducible refine YF 4 ?_; refine Xk rfl 139 rfl .u32 80 HO ?_; intro w1 A1 s1 b1)
    | (with_reducible refine YF 5 ?_; refine Xk rfl 139 rfl .u32 80 HO ?_; intro w2 A2 s2 b2; replace A1 := A1.below b2; have BB := Qk b1 b2; replace hwd := (hr.below BB).width))
  go_loopw [17] (fun i wr => ∃ (k : Nat) (ms : List Int), k <= 16 /\ i = .int .i64 k /\ Y4 .u32 wr w.heap.size (List.replicate 80 0) /\ Y4 .u32 wr w1.heap.size ms /\ ms.length = 80 /\ (∀ j, j < 80 -> Qb ms j = if j < k then Kc zs j else 0) /\ Below w.heap.size w wr) (fun i _ => 16 - (intOf i).toNat)
  case atStart => exact ⟨0, List.replicate 80 0, by omega, rfl, A1, A2, by simp, fun j h => by rw [V8, if_neg (by omega)], BB⟩
  case round =>
    clear A1 A2 BB hwd
    obtain ⟨k, ms, hk, rfl, A1, A2, hml, hms, BB⟩ := hrel
    by_cases hlt : k < 16
    . have hc : ∀ j, j < 4 -> wr.cell? ⟨x, o + k * 4 + j, none⟩ = some (.int .u8 (Qb ((zs.drop (k * 4)).take 4) j)) := fun j hj => by
        have h1 := hcell (k * 4 + j) (by omega)
        rw [<- Nat.add_assoc] at h1
        rw [BB.cell hx, h1]
        simp [Qb, hj]
      have hbp : Qh ((zs.drop (k * 4)).take 4) := fun y hy => hb y (List.mem_of_mem_drop (List.mem_of_mem_take hy))
      have hlp : ((zs.drop (k * 4)).take 4).length = 4 := by simp; omega
      generalize hps : (zs.drop (k * 4)).take 4 = ps at *
      clear hcell
      go_wp2
      have hlen : (k + 1) * 4 - k * 4 = 4 := by omega
      simp only [hlen]
      go_loopw [8, 30] (fun y j wq => ∃ (t : Nat), t <= 4 /\ j = .int .i64 t /\ y = .int .u32 (Gx (ps.take t)) /\ wq = wr) (fun _ j _ => 4 - (intOf j).toNat)
      case atStart => exact ⟨0, by omega, rfl, rfl, rfl⟩
      case round =>
        obtain ⟨t, ht, rfl, rfl, rfl⟩ := hrel
        by_cases hlt2 : t < 4
        . have hc0 := hc t hlt2
          have hbt := Kz t (ps.take t) (by simp [hlp]; omega) (fun y hy => hbp y (List.mem_of_mem_take hy))
          have hcb := hbp.at t
          have hsn : Gx (ps.take (t + 1)) = Gx (ps.take t) * 256 + Qb ps t := by rw [ZM ps t (by omega), JG]
          generalize Qb ps t = c at *
          have hyb : 0 <= Gx (ps.take t) /\ Gx (ps.take t) < 16777216 := by
            have hp : (256 : Int) ^ t <= 256 ^ 3 := by
              rcases (by omega : t = 0 \/ t = 1 \/ t = 2 \/ t = 3) with rfl | rfl | rfl | rfl <;> decide
            omega
          generalize Gx (ps.take t) = y at *
          have ho := Qjb y c hyb hcb
          have hy0 := hyb.1
          have hy1 := hyb.2
          replace hsn := Lib.hid hsn
          clear hbt hyb hc
          go_wp2
          refine ⟨⟨t + 1, by omega, by go_num, ?_, by trivial⟩, by simp only [intOf]; omega⟩
          rw [hsn.out]
        . obtain rfl : t = 4 := by omega
          have hw : Gx (ps.take 4) = Kc zs k := by rw [<- hlp, List.take_length, <- hps]; rfl
          rw [hw]
          have f0 := A2.free (k := k) (by omega)
          have c0 := A2.cell (k := k) (by omega)
          clear hc
          go_wp2
          refine ⟨⟨k + 1, ms.set k (Kc zs k), by omega, by go_num, A1.setOther (by omega) _ _, A2.set _ _, by simp [hml], fun j hj => ?_, BB.setCell (by show w.heap.size <= w1.heap.size; omega) _⟩, by simp only [intOf]; omega⟩
          rw [Zv ms k j _ (by omega)]
          by_cases e : j = k
          . rw [if_pos e, if_pos (by omega), e]
          . rw [if_neg e, hms j hj]
            by_cases e2 : j < k
            . rw [if_pos e2, if_pos (by omega)]
            . rw [if_neg e2, if_neg (by omega)]
    . obtain rfl : k = 16 := by omega
      have e : ms = Qg zs 0 := QZ (by rw [hml]; rfl) fun j h => by
        rw [hml] at h
        rw [hms j h]
        by_cases e : j < 16
        . rw [if_pos e]
          unfold Qg Qb
          rw [List.getElem?_append_left (by simpa using e)]; simp [e]
        . rw [if_neg e]
          have e2 := V8 64 (j - 16)
          unfold Qg
          unfold Qb at e2 ⊢
          rw [List.getElem?_append_right (by simpa using e), List.length_map, List.length_range, e2]
      subst e
      clear hms hml hcell
      have hsl := XA zs
      have hsi := UN hb hl
      go_wp2
      go_loopw [11] (fun i wr => ∃ (i' : Nat), 16 <= i' /\ i' <= 64 /\ i = .int .i64 i' /\ Y4 .u32 wr w.heap.size (List.replicate 80 0) /\ Y4 .u32 wr w1.heap.size (Qg zs (i' - 16)) /\ Below w.heap.size w wr) (fun i _ => 64 - (intOf i).toNat)
      case atStart => exact ⟨16, by omega, by omega, rfl, A1, A2, BB⟩
      case round =>
        clear A1 A2 BB
        obtain ⟨i, hi0, hi1, rfl, A1, A2, BB⟩ := hrel
        have hr' := hr.below BB
        have hct := hr'.count
        by_cases hlt : i < 64
        . have hln := hsl (i - 16)
          have hin := hsi (i - 16)
          have hst : Qg zs (i + 1 - 16) = (Qg zs (i - 16)).set i (YM (Qg zs (i - 16)) i) := by
            rw [show i + 1 - 16 = (i - 16) + 1 by omega]
            show (Qg zs (i - 16)).set (16 + (i - 16)) (YM (Qg zs (i - 16)) (16 + (i - 16))) = _
            rw [show 16 + (i - 16) = i by omega]
          generalize Qg zs (i - 16) = ms at *
          have hat : ∀ j, j < 80 -> XC (Qb ms j) := fun j hj => hin _ (JY (by omega))
          obtain ⟨j1, e1, n1⟩ : ∃ j : Nat, IntKind.i64.wrap ((i : Int) - 16) = (j : Int) /\ i - 16 = j := ⟨i - 16, by rw [XE (by omega) (by omega)]; omega, rfl⟩
          obtain ⟨j2, e2, n2⟩ : ∃ j : Nat, IntKind.i64.wrap ((i : Int) - 15) = (j : Int) /\ i - 15 = j := ⟨i - 15, by rw [XE (by omega) (by omega)]; omega, rfl⟩
          obtain ⟨j3, e3, n3⟩ : ∃ j : Nat, IntKind.i64.wrap ((i : Int) - 7) = (j : Int) /\ i - 7 = j := ⟨i - 7, by rw [XE (by omega) (by omega)]; omega, rfl⟩
          obtain ⟨j4, e4, n4⟩ : ∃ j : Nat, IntKind.i64.wrap ((i : Int) - 2) = (j : Int) /\ i - 2 = j := ⟨i - 2, by rw [XE (by omega) (by omega)]; omega, rfl⟩
          have b1 : (j1 : Int) < 80 := by omega
          have b2' : (j2 : Int) < 80 := by omega
          have b3 : (j3 : Int) < 80 := by omega
          have b4 : (j4 : Int) < 80 := by omega
          have b5 : (i : Int) < 80 := by omega
          have c1 := A2.cell (k := j1) (by omega)
          have c2 := A2.cell (k := j2) (by omega)
          have c3 := A2.cell (k := j3) (by omega)
          have c4 := A2.cell (k := j4) (by omega)
          have nx : YM ms i = (Qb ms j1 + VD (Qb ms j2) + Qb ms j3 + UY (Qb ms j4)) % 4294967296 := by unfold YM; rw [n1, n2, n3, n4]
          replace nx := Lib.hid nx
          clear n1 n2 n3 n4
          have c5 := A2.cell (k := i) (by omega)
          have f5 := A2.free (k := i) (by omega)
          have HA := fun W => Qhn (Qb ms j2) W (hat _ (by omega))
          have HB := fun W => Qhl (Qb ms j4) W (hat _ (by omega))
          obtain ⟨f10, f11, f12, f13⟩ := hr'.fn
          replace hst := Lib.hid hst
          clear hin hsi hsl
          go_wp2
          go_still_tail 31, (by kernel_rfl)
          still_call (HA _)
          repeat still_step
          still_call (HB _)
          repeat still_step
          refine wpStill_nil ?_
          change wpList _ _ _ _ _ wr.drew
          go_wp2
          refine ⟨?_, ?_⟩
          . refine Exists.intro (Value.int .i64 ((i : Int) + 1)) ?_
            repeat apply Exists.intro (α := Value)
            refine ⟨⟨i + 1, by omega, by omega, by go_num, ?_, ?_, ?_⟩, rfl⟩
            . exact (UE A1).setOther (by omega) _ _
            . rw [hst.out, nx.out]
              try simp only [IntKind.wrap_u64, Int.emod_add_emod]
              exact UE (A2.set i _)
            . exact BB.drew.setCell (by show w.heap.size <= w1.heap.size; omega) _
          . show 64 - (intOf (Value.int .i64 ((i : Int) + 1))).toNat < 64 - (intOf (Value.int .i64 (i : Int))).toNat
            simp only [intOf]; omega
        . obtain rfl : i = 64 := by omega
          have hln := hsl (64 - 16)
          go_wp2_with (first
            | (with_reducible refine YF 83 ?_; refine Y7 rfl 139 _ rfl 80 85 Qdv Ga w1.heap.size rfl .u32 _ A2 hln ?_)
            | (with_reducible refine Hg (o := ⟨_, .store 139 _ _, _, _, _, _⟩) ?_; refine Zm rfl 139 _ _ rfl 80 Ga w.heap.size rfl .u32 _ _ rfl A1 (by simp) hln ?_; intro A3))
          refine bodyPost_ret (YW rfl _ 80 85 Qdv Ga w.heap.size rfl .u32 _ A3 hln) rfl ?_
          exact ⟨rfl, Zp BB (Nat.le_refl _) _⟩
theorem Zl.drewN {w : World} (h : Zl w) (n : Nat) : Zl (w.drewN n) := h.below (XR (Below.refl _ _) n)
theorem V2 {w w' : World} (h : Below w.heap.size w w') (B : Nat) : w.grownBy w' (some B) := ⟨h.os, h.tape, h.output, h.size, fun k hk _ => h.block k hk⟩
theorem Yj (w : World) (g : Nat) (cs : Array Value) : w.grownBy (w.setRow g cs) (some g) := by
  refine ⟨rfl, rfl, rfl, by simp [World.setRow], fun k hk hne => ?_⟩
  rw [setRow_other w g k cs (by simpa using hne)]
theorem Jq (x : Int) : Xh (x % 18446744073709551616) := by unfold Xh; omega
structure Xx where
  (a b c d e f g h : Int)
def Xx.ok (v : Xx) : Prop := Xh v.a /\ Xh v.b /\ Xh v.c /\ Xh v.d /\ Xh v.e /\ Xh v.f /\ Xh v.g /\ Xh v.h
def X0 (e : Int) : Int := bits BinOp.xor .u64 (if IntKind.u64.signed = true then -1 else IntKind.u64.max) e
def YD (m : List Int) (i : Nat) (v : Xx) : Int := (v.h + VM v.e + bits BinOp.xor .u64 (bits BinOp.and .u64 v.e v.f) (bits BinOp.and .u64 (X0 v.e) v.g) + Qb Q7 i + Qb m i) % 18446744073709551616
def Ke (v : Xx) : Int := (JD v.a + bits BinOp.xor .u64 (bits BinOp.xor .u64 (bits BinOp.and .u64 v.a v.b) (bits BinOp.and .u64 v.a v.c)) (bits BinOp.and .u64 v.b v.c)) % 18446744073709551616
def YU (m : List Int) (i : Nat) (v : Xx) : Xx := ⟨(YD m i v + Ke v) % 18446744073709551616, v.a, v.b, v.c, (v.d + YD m i v) % 18446744073709551616, v.e, v.f, v.g⟩
def Qr (m : List Int) (v : Xx) : Nat -> Xx
  | 0 => v
  | i + 1 => YU m i (Qr m v i)
theorem VX {m : List Int} {v : Xx} (h : v.ok) : ∀ i, (Qr m v i).ok
  | 0 => h
  | i + 1 => by
    obtain ⟨h0, h1, h2, h3, h4, h5, h6, h7⟩ := VX (m := m) h i
    exact ⟨Jq _, h0, h1, h2, Jq _, h4, h5, h6⟩
def QE (st : List Int) : Xx := ⟨Qb st 0, Qb st 1, Qb st 2, Qb st 3, Qb st 4, Qb st 5, Qb st 6, Qb st 7⟩
def Xx.list (v : Xx) : List Int := [v.a, v.b, v.c, v.d, v.e, v.f, v.g, v.h]
/-- The state behind a block. -/
def Xa (st zs : List Int) : List Int := (List.range 8).map fun j => (Qb st j + Qb (Qr (Qf zs 64) (QE st) 80).list j) % 18446744073709551616
set_option maxHeartbeats 4000000 in
theorem QaA (w : World) (B : Nat) (st : List Int) (hr : XL w B st) (hT : Zl w) (hs : 1 ≠ B) (hc : 5 ≠ B) (v : Value) (zs : List Int) (hv : UF .u8 w v zs) (hb : Qh zs) (hl : zs.length = 128) :
    Calls Tryz.prog 95 #[.pointer (some ⟨B, 0, none⟩), v] w fun e w' => (∃ v, e = .returned v) /\ XL w' B (Xa st zs) /\ w.grownBy w' (some B) := by
  have hB := hr.lt
  have hml := Xz zs 64
  have hmi := UM hb hl 64
  have HS := fun W (h : XL W B st) (hv : UF .u8 W v zs) => Dg W B st h v zs hv hb hl
  have htk : Xa st zs = (List.range 8).map fun j => (Qb st j + Qb (Qr (Qf zs 64) (QE st) 80).list j) % 18446744073709551616 := rfl
  generalize Qf zs 64 = ms at *
  have h8 : (QE st).ok := ⟨hr.stIn 0, hr.stIn 1, hr.stIn 2, hr.stIn 3, hr.stIn 4, hr.stIn 5, hr.stIn 6, hr.stIn 7⟩
  have he8 : QE st = ⟨Qb st 0, Qb st 1, Qb st 2, Qb st 3, Qb st 4, Qb st 5, Qb st 6, Qb st 7⟩ := rfl
  go_enter Tryz.func95, Tryz.ntmps95
  go_wp2_with (first
    | (go_at_call 126; (with_reducible refine (HS _ hr hv).mono ?_); rintro e w1 ⟨rfl, b1⟩)
    | (with_reducible refine YF 4 ?_; refine Xk rfl 125 rfl .u64 80 HN ?_; intro w2 A2 s2 b2; have BB := Qk b1 b2; have hr2 := hr.below BB; have hT2 := hT.below BB)
    | (with_reducible refine Hg (o := ⟨_, .store 125 _ _, _, _, _, _⟩) ?_; refine Zm rfl 125 _ _ rfl 80 K9 w1.heap.size rfl .u64 _ _ rfl A2 (by simp) hml ?_; intro A3))
  have hs1 := b1.size
  have hr3 : XL (w2.setRow w1.heap.size (ms.map (Value.int .u64)).toArray) B st := hr2.but (Yj _ _ _) (by simp; omega)
  have hT3 : Zl (w2.setRow w1.heap.size (ms.map (Value.int .u64)).toArray) := hT2.but (Yj _ _ _) (by have := hT.lt.1; have := b1.size; omega) (by have := hT.lt.2; have := b1.size; omega)
  have BB3 := Zp BB (g := w1.heap.size) b1.size (ms.map (Value.int .u64)).toArray
  generalize w2.setRow w1.heap.size (ms.map (Value.int .u64)).toArray = w3 at *
  clear hr2 hT2 A2 BB HS
  have s0 : w3.cell? ⟨B, 2, none⟩ = some (.int .u64 (Qb st 0)) := (hr3.stAt (j := 0) (by decide)).1
  have s1 : w3.cell? ⟨B, 3, none⟩ = some (.int .u64 (Qb st 1)) := (hr3.stAt (j := 1) (by decide)).1
  have s2 : w3.cell? ⟨B, 4, none⟩ = some (.int .u64 (Qb st 2)) := (hr3.stAt (j := 2) (by decide)).1
  have s3 : w3.cell? ⟨B, 5, none⟩ = some (.int .u64 (Qb st 3)) := (hr3.stAt (j := 3) (by decide)).1
  have s4 : w3.cell? ⟨B, 6, none⟩ = some (.int .u64 (Qb st 4)) := (hr3.stAt (j := 4) (by decide)).1
  have s5 : w3.cell? ⟨B, 7, none⟩ = some (.int .u64 (Qb st 5)) := (hr3.stAt (j := 5) (by decide)).1
  have s6 : w3.cell? ⟨B, 8, none⟩ = some (.int .u64 (Qb st 6)) := (hr3.stAt (j := 6) (by decide)).1
  have s7 : w3.cell? ⟨B, 9, none⟩ = some (.int .u64 (Qb st 7)) := (hr3.stAt (j := 7) (by decide)).1
  have hct := hr3.count
  have hml' := hml
  go_quiet (fail)
  go_wp2
  go_quiet (fail)
  go_wp2
  have he : Qr ms (QE st) 0 = QE st := rfl
  generalize hv0 : QE st = v0 at *
  go_loopw [5, 6, 7, 8, 9, 10, 11, 12, 65] (fun a b c d e f g h i wr => ∃ (k : Nat), k <= 80 /\ i = .int .i64 k /\ a = .int .u64 (Qr ms v0 k).a /\ b = .int .u64 (Qr ms v0 k).b /\ c = .int .u64 (Qr ms v0 k).c /\ d = .int .u64 (Qr ms v0 k).d /\ e = .int .u64 (Qr ms v0 k).e /\ f = .int .u64 (Qr ms v0 k).f /\ g = .int .u64 (Qr ms v0 k).g /\ h = .int .u64 (Qr ms v0 k).h /\ XL wr B st /\ Zl wr /\ Y4 .u64 wr w1.heap.size ms /\ Below w.heap.size w wr) (fun _ _ _ _ _ _ _ _ i _ => 80 - (intOf i).toNat)
  case atStart =>
    refine ⟨0, by omega, rfl, ?_, ?_, ?_, ?_, ?_, ?_, ?_, ?_, hr3, hT3.drewN _, A3, XR BB3 _⟩ <;> (rw [he, he8])
  case round =>
    clear hr3 hT3 A3 BB3 s0 s1 s2 s3 s4 s5 s6 s7 hct
    obtain ⟨k, hk, rfl, rfl, rfl, rfl, rfl, rfl, rfl, rfl, rfl, hr3, hT3, A3, BB3⟩ := hrel
    by_cases hlt : k < 80
    . have hok := VX (m := ms) h8 k
      have hnx : Qr ms v0 (k + 1) = YU ms k (Qr ms v0 k) := rfl
      rcases hv : Qr ms v0 k with ⟨a, b, c, d, e, f, g, h⟩
      rw [hv] at hok hnx
      obtain ⟨⟨a0, a1⟩, ⟨b0, b1'⟩, ⟨c0, c1⟩, ⟨d0, d1⟩, ⟨e0, e1⟩, ⟨f0, f1⟩, ⟨g0, g1⟩, ⟨h0, h1⟩⟩ := hok
      dsimp only at a0 a1 b0 b1' c0 c1 d0 d1 e0 e1 f0 f1 g0 g1 h0 h1
      have hcu := hT3.cu k (by omega)
      have hci := QbP k (by omega)
      have HC := fun W (h : XL W B st) => Qeq (Qb Q7 k) W B st h hci
      have HB := fun W => Qie e W ⟨e0, e1⟩
      have HA := fun W => Qig a W ⟨a0, a1⟩
      have hms := A3.cell (k := k) (by omega)
      obtain ⟨f10, f11, f12, f13⟩ := hr3.fn
      have hk80 : (k : Int) < 80 := by omega
      replace hnx := Lib.hid hnx
      clear hv hmi htk he
      go_wp2
      go_quiet (first | (go_at_call 46; exact Calls.quiet_of_same (HB _)) | (go_at_call 93; exact Calls.quiet_of_same (HC _ hr3)))
      go_wp2_with (first
        | (go_at_call 44; (with_reducible refine (HA _).mono ?_); rintro e w9 ⟨rfl, rfl⟩))
      refine ⟨⟨k + 1, by omega, by go_num, ?_, congrArg (Value.int .u64) (congrArg Xx.b hnx.out).symm, congrArg (Value.int .u64) (congrArg Xx.c hnx.out).symm, congrArg (Value.int .u64) (congrArg Xx.d hnx.out).symm, ?_, congrArg (Value.int .u64) (congrArg Xx.f hnx.out).symm, congrArg (Value.int .u64) (congrArg Xx.g hnx.out).symm, congrArg (Value.int .u64) (congrArg Xx.h hnx.out).symm, hr3, hT3.drewN _, A3, XR BB3 _⟩, by simp only [intOf]; omega⟩ <;> rw [hnx.out]
      . show _ = Value.int .u64 ((YD ms k ⟨a, b, c, d, e, f, g, h⟩ + Ke ⟨a, b, c, d, e, f, g, h⟩) % 18446744073709551616)
        unfold YD Ke X0
        first | rfl | (simp only [IntKind.wrap_u64, Int.emod_add_emod, Int.add_emod_emod])
      . show _ = Value.int .u64 ((d + YD ms k ⟨a, b, c, d, e, f, g, h⟩) % 18446744073709551616)
        unfold YD X0
        first | rfl | (simp only [IntKind.wrap_u64, Int.emod_add_emod, Int.add_emod_emod])
    . obtain rfl : k = 80 := by omega
      have hok := VX (m := ms) h8 80
      rcases hv : Qr ms v0 80 with ⟨a, b, c, d, e, f, g, h⟩
      rw [hv] at hok htk
      obtain ⟨⟨a0, a1⟩, ⟨b0, b1'⟩, ⟨c0, c1⟩, ⟨d0, d1⟩, ⟨e0, e1⟩, ⟨f0, f1⟩, ⟨g0, g1⟩, ⟨h0, h1⟩⟩ := hok
      dsimp only at a0 a1 b0 b1' c0 c1 d0 d1 e0 e1 f0 f1 g0 g1 h0 h1
      have hg := V2 BB3 B
      replace htk := Lib.hid htk
      clear hv hmi he
      go_wp2
      rw [show Value.agg #[.int .u64 a, .int .u64 b, .int .u64 c, .int .u64 d, .int .u64 e, .int .u64 f, .int .u64 g, .int .u64 h] = XN .u64 [a, b, c, d, e, f, g, h] from rfl]
      have hls : ([a, b, c, d, e, f, g, h] : List Int).length = 8 := rfl
      have hlv : (Xx.list ⟨a, b, c, d, e, f, g, h⟩) = [a, b, c, d, e, f, g, h] := rfl
      replace hlv := Lib.hid hlv
      generalize ([a, b, c, d, e, f, g, h] : List Int) = ls at *
      clear a0 a1 b0 b1' c0 c1 d0 d1 e0 e1 f0 f1 g0 g1 h0 h1 BB3 A3 hT3
      go_loopw [135] (fun i wr => ∃ (j : Nat) (su : List Int), j <= 8 /\ i = .int .i64 j /\ XL wr B su /\ w.grownBy wr (some B) /\ (∀ q, q < 8 -> Qb su q = if q < j then (Qb st q + Qb ls q) % 18446744073709551616 else Qb st q)) (fun i _ => 8 - (intOf i).toNat)
      case atStart => exact ⟨0, st, by omega, rfl, hr3, hg, fun q hq => by rw [if_neg (by omega)]⟩
      case round =>
        clear hr3 hg
        obtain ⟨j, su, hj, rfl, hr3, hg, hsu⟩ := hrel
        by_cases hjl : j < 8
        . have hix : ∀ w, (Instr.index 68 (XN .u64 ls) (.int .i64 (j : Int))).run Tryz.prog w = .ok (.int .u64 (Qb ls j)) w := fun w => by
            have h := Fd (w := w) (P := Tryz.prog) 68 8 47 Tryz.underlying68 _ Tryz.underlying47 rfl (by kernel_rfl) .u64 ls hls (j : Int) (by omega) (by omega)
            rwa [Int.toNat_natCast] at h
          obtain ⟨cj, fj⟩ := hr3.stAt hjl
          have hsj := hsu j hjl
          rw [if_neg (by omega)] at hsj
          rw [hsj] at cj
          have hjI : (j : Int) < 8 := by omega
          replace hsj := Lib.hid hsj
          replace hsu := Lib.hid hsu
          go_wp2
          go_still_tail 11, (by kernel_rfl)
          change wpList _ _ _ _ _ wr.drew
          go_wp2
          refine ⟨?_, ?_⟩
          . apply Exists.intro (α := Value)
            apply Exists.intro (α := Value)
            refine Exists.intro (Value.int .i64 ((j : Int) + 1)) ?_
            repeat apply Exists.intro (α := Value)
            refine ⟨⟨j + 1, su.set j ((Qb st j + Qb ls j) % 18446744073709551616), by omega, by go_num, ?_, ?_, fun q hq => ?_⟩, rfl⟩
            . try simp only [IntKind.wrap_u64]
              have h := hr3.set hjl (Jq (Qb st j + Qb ls j))
              exact h
            . exact ZC (Xn hg _ _)
            . rw [Zv su j q _ (by rw [hr3.1]; exact hjl)]
              by_cases e : q = j
              . rw [if_pos e, if_pos (by omega), e]
              . rw [if_neg e, hsu.out q hq]
                by_cases e2 : q < j
                . rw [if_pos e2, if_pos (by omega)]
                . rw [if_neg e2, if_neg (by omega)]
          . show 8 - (intOf (Value.int .i64 ((j : Int) + 1))).toNat < 8 - (intOf (Value.int .i64 (j : Int))).toNat
            simp only [intOf]; omega
        . obtain rfl : j = 8 := by omega
          have e : su = Xa st zs := QZ (by rw [hr3.1, htk.out]; simp) fun q hq => by
            rw [hr3.1] at hq
            rw [hsu q hq, if_pos hq, htk.out, hlv.out]
            simp [Qb, hq]
          subst e
          go_wp2
          refine bodyPost_end (results_none rfl _ _ _) rfl ?_
          exact ⟨⟨_, rfl⟩, hr3, hg⟩
theorem K0 (x : Int) : XC (x % 4294967296) := by unfold XC; omega
structure Xy where
  (a b c d e f g h : Int)
def Xy.ok (v : Xy) : Prop := XC v.a /\ XC v.b /\ XC v.c /\ XC v.d /\ XC v.e /\ XC v.f /\ XC v.g /\ XC v.h
def Qbm (e : Int) : Int := bits BinOp.xor .u32 (if IntKind.u32.signed = true then -1 else IntKind.u32.max) e
def YE (m : List Int) (i : Nat) (v : Xy) : Int := (v.h + VN v.e + bits BinOp.xor .u32 (bits BinOp.and .u32 v.e v.f) (bits BinOp.and .u32 (Qbm v.e) v.g) + Qb Q7 i / 4294967296 + Qb m i) % 4294967296
def JZ (v : Xy) : Int := (JE v.a + bits BinOp.xor .u32 (bits BinOp.xor .u32 (bits BinOp.and .u32 v.a v.b) (bits BinOp.and .u32 v.a v.c)) (bits BinOp.and .u32 v.b v.c)) % 4294967296
def YV (m : List Int) (i : Nat) (v : Xy) : Xy := ⟨(YE m i v + JZ v) % 4294967296, v.a, v.b, v.c, (v.d + YE m i v) % 4294967296, v.e, v.f, v.g⟩
def Qs (m : List Int) (v : Xy) : Nat -> Xy
  | 0 => v
  | i + 1 => YV m i (Qs m v i)
theorem VY {m : List Int} {v : Xy} (h : v.ok) : ∀ i, (Qs m v i).ok
  | 0 => h
  | i + 1 => by
    obtain ⟨h0, h1, h2, h3, h4, h5, h6, h7⟩ := VY (m := m) h i
    exact ⟨K0 _, h0, h1, h2, K0 _, h4, h5, h6⟩
def QF (st : List Int) : Xy := ⟨Qb st 0, Qb st 1, Qb st 2, Qb st 3, Qb st 4, Qb st 5, Qb st 6, Qb st 7⟩
def Xy.list (v : Xy) : List Int := [v.a, v.b, v.c, v.d, v.e, v.f, v.g, v.h]
/-- The state behind a block. -/
def Xb (st zs : List Int) : List Int := (List.range 8).map fun j => (Qb st j + Qb (Qs (Qg zs 48) (QF st) 64).list j) % 4294967296
set_option maxHeartbeats 4000000 in
theorem QaB (w : World) (B : Nat) (st : List Int) (hr : XM w B st) (hT : Zl w) (hs : 1 ≠ B) (hc : 5 ≠ B) (v : Value) (zs : List Int) (hv : UF .u8 w v zs) (hb : Qh zs) (hl : zs.length = 64) :
    Calls Tryz.prog 102 #[.pointer (some ⟨B, 0, none⟩), v] w fun e w' => (∃ v, e = .returned v) /\ XM w' B (Xb st zs) /\ w.grownBy w' (some B) := by
  have hB := hr.lt
  have hml := XA zs 48
  have hmi := UN hb hl 48
  have HS := fun W (h : XM W B st) (hv : UF .u8 W v zs) => Dh W B st h v zs hv hb hl
  have htk : Xb st zs = (List.range 8).map fun j => (Qb st j + Qb (Qs (Qg zs 48) (QF st) 64).list j) % 4294967296 := rfl
  generalize Qg zs 48 = ms at *
  have h8 : (QF st).ok := ⟨hr.stIn 0, hr.stIn 1, hr.stIn 2, hr.stIn 3, hr.stIn 4, hr.stIn 5, hr.stIn 6, hr.stIn 7⟩
  have he8 : QF st = ⟨Qb st 0, Qb st 1, Qb st 2, Qb st 3, Qb st 4, Qb st 5, Qb st 6, Qb st 7⟩ := rfl
  go_enter Tryz.func102, Tryz.ntmps102
  go_wp2_with (first
    | (go_at_call 128; (with_reducible refine (HS _ hr hv).mono ?_); rintro e w1 ⟨rfl, b1⟩)
    | (with_reducible refine YF 4 ?_; refine Xk rfl 139 rfl .u32 80 HO ?_; intro w2 A2 s2 b2; have BB := Qk b1 b2; have hr2 := hr.below BB; have hT2 := hT.below BB)
    | (with_reducible refine Hg (o := ⟨_, .store 139 _ _, _, _, _, _⟩) ?_; refine Zm rfl 139 _ _ rfl 80 Ga w1.heap.size rfl .u32 _ _ rfl A2 (by simp) hml ?_; intro A3))
  have hs1 := b1.size
  have hr3 : XM (w2.setRow w1.heap.size (ms.map (Value.int .u32)).toArray) B st := hr2.but (Yj _ _ _) (by simp; omega)
  have hT3 : Zl (w2.setRow w1.heap.size (ms.map (Value.int .u32)).toArray) := hT2.but (Yj _ _ _) (by have := hT.lt.1; have := b1.size; omega) (by have := hT.lt.2; have := b1.size; omega)
  have BB3 := Zp BB (g := w1.heap.size) b1.size (ms.map (Value.int .u32)).toArray
  generalize w2.setRow w1.heap.size (ms.map (Value.int .u32)).toArray = w3 at *
  clear hr2 hT2 A2 BB HS
  have s0 : w3.cell? ⟨B, 2, none⟩ = some (.int .u32 (Qb st 0)) := (hr3.stAt (j := 0) (by decide)).1
  have s1 : w3.cell? ⟨B, 3, none⟩ = some (.int .u32 (Qb st 1)) := (hr3.stAt (j := 1) (by decide)).1
  have s2 : w3.cell? ⟨B, 4, none⟩ = some (.int .u32 (Qb st 2)) := (hr3.stAt (j := 2) (by decide)).1
  have s3 : w3.cell? ⟨B, 5, none⟩ = some (.int .u32 (Qb st 3)) := (hr3.stAt (j := 3) (by decide)).1
  have s4 : w3.cell? ⟨B, 6, none⟩ = some (.int .u32 (Qb st 4)) := (hr3.stAt (j := 4) (by decide)).1
  have s5 : w3.cell? ⟨B, 7, none⟩ = some (.int .u32 (Qb st 5)) := (hr3.stAt (j := 5) (by decide)).1
  have s6 : w3.cell? ⟨B, 8, none⟩ = some (.int .u32 (Qb st 6)) := (hr3.stAt (j := 6) (by decide)).1
  have s7 : w3.cell? ⟨B, 9, none⟩ = some (.int .u32 (Qb st 7)) := (hr3.stAt (j := 7) (by decide)).1
  have hct := hr3.count
  have hml' := hml
  go_quiet (fail)
  go_wp2
  go_quiet (fail)
  go_wp2
  have he : Qs ms (QF st) 0 = QF st := rfl
  generalize hv0 : QF st = v0 at *
  go_loopw [5, 6, 7, 8, 9, 10, 11, 12, 65] (fun a b c d e f g h i wr => ∃ (k : Nat), k <= 64 /\ i = .int .i64 k /\ a = .int .u32 (Qs ms v0 k).a /\ b = .int .u32 (Qs ms v0 k).b /\ c = .int .u32 (Qs ms v0 k).c /\ d = .int .u32 (Qs ms v0 k).d /\ e = .int .u32 (Qs ms v0 k).e /\ f = .int .u32 (Qs ms v0 k).f /\ g = .int .u32 (Qs ms v0 k).g /\ h = .int .u32 (Qs ms v0 k).h /\ XM wr B st /\ Zl wr /\ Y4 .u32 wr w1.heap.size ms /\ Below w.heap.size w wr) (fun _ _ _ _ _ _ _ _ i _ => 64 - (intOf i).toNat)
  case atStart =>
    refine ⟨0, by omega, rfl, ?_, ?_, ?_, ?_, ?_, ?_, ?_, ?_, hr3, hT3.drewN _, A3, XR BB3 _⟩ <;> (rw [he, he8])
  case round =>
    clear hr3 hT3 A3 BB3 s0 s1 s2 s3 s4 s5 s6 s7 hct
    obtain ⟨k, hk, rfl, rfl, rfl, rfl, rfl, rfl, rfl, rfl, rfl, hr3, hT3, A3, BB3⟩ := hrel
    by_cases hlt : k < 64
    . have hok := VY (m := ms) h8 k
      have hnx : Qs ms v0 (k + 1) = YV ms k (Qs ms v0 k) := rfl
      rcases hv : Qs ms v0 k with ⟨a, b, c, d, e, f, g, h⟩
      rw [hv] at hok hnx
      obtain ⟨⟨a0, a1⟩, ⟨b0, b1'⟩, ⟨c0, c1⟩, ⟨d0, d1⟩, ⟨e0, e1⟩, ⟨f0, f1⟩, ⟨g0, g1⟩, ⟨h0, h1⟩⟩ := hok
      dsimp only at a0 a1 b0 b1' c0 c1 d0 d1 e0 e1 f0 f1 g0 g1 h0 h1
      have hcu := hT3.cu k (by omega)
      have hci := QbP k (by omega)
      have HC := fun W (h : XM W B st) => Qer (Qb Q7 k) W B st h hci
      have HB := fun W => Qif e W ⟨e0, e1⟩
      have HA := fun W => Qih a W ⟨a0, a1⟩
      have hms := A3.cell (k := k) (by omega)
      obtain ⟨f10, f11, f12, f13⟩ := hr3.fn
      have hk80 : (k : Int) < 80 := by omega
      replace hnx := Lib.hid hnx
      clear hv hmi htk he
      go_wp2
      go_quiet (first | (go_at_call 60; exact Calls.quiet_of_same (HB _)) | (go_at_call 101; exact Calls.quiet_of_same (HC _ hr3)))
      go_wp2_with (first
        | (go_at_call 58; (with_reducible refine (HA _).mono ?_); rintro e w9 ⟨rfl, rfl⟩))
      refine ⟨⟨k + 1, by omega, by go_num, ?_, congrArg (Value.int .u32) (congrArg Xy.b hnx.out).symm, congrArg (Value.int .u32) (congrArg Xy.c hnx.out).symm, congrArg (Value.int .u32) (congrArg Xy.d hnx.out).symm, ?_, congrArg (Value.int .u32) (congrArg Xy.f hnx.out).symm, congrArg (Value.int .u32) (congrArg Xy.g hnx.out).symm, congrArg (Value.int .u32) (congrArg Xy.h hnx.out).symm, hr3, hT3.drewN _, A3, XR BB3 _⟩, by simp only [intOf]; omega⟩ <;> rw [hnx.out]
      . show _ = Value.int .u32 ((YE ms k ⟨a, b, c, d, e, f, g, h⟩ + JZ ⟨a, b, c, d, e, f, g, h⟩) % 4294967296)
        unfold YE JZ Qbm
        first | rfl | (simp only [IntKind.wrap_u64, Int.emod_add_emod, Int.add_emod_emod])
      . show _ = Value.int .u32 ((d + YE ms k ⟨a, b, c, d, e, f, g, h⟩) % 4294967296)
        unfold YE Qbm
        first | rfl | (simp only [IntKind.wrap_u64, Int.emod_add_emod, Int.add_emod_emod])
    . obtain rfl : k = 64 := by omega
      have hok := VY (m := ms) h8 64
      rcases hv : Qs ms v0 64 with ⟨a, b, c, d, e, f, g, h⟩
      rw [hv] at hok htk
      obtain ⟨⟨a0, a1⟩, ⟨b0, b1'⟩, ⟨c0, c1⟩, ⟨d0, d1⟩, ⟨e0, e1⟩, ⟨f0, f1⟩, ⟨g0, g1⟩, ⟨h0, h1⟩⟩ := hok
      dsimp only at a0 a1 b0 b1' c0 c1 d0 d1 e0 e1 f0 f1 g0 g1 h0 h1
      have hg := V2 BB3 B
      replace htk := Lib.hid htk
      clear hv hmi he
      go_wp2
      rw [show Value.agg #[.int .u32 a, .int .u32 b, .int .u32 c, .int .u32 d, .int .u32 e, .int .u32 f, .int .u32 g, .int .u32 h] = XN .u32 [a, b, c, d, e, f, g, h] from rfl]
      have hls : ([a, b, c, d, e, f, g, h] : List Int).length = 8 := rfl
      have hlv : (Xy.list ⟨a, b, c, d, e, f, g, h⟩) = [a, b, c, d, e, f, g, h] := rfl
      replace hlv := Lib.hid hlv
      generalize ([a, b, c, d, e, f, g, h] : List Int) = ls at *
      clear a0 a1 b0 b1' c0 c1 d0 d1 e0 e1 f0 f1 g0 g1 h0 h1 BB3 A3 hT3
      go_loopw [135] (fun i wr => ∃ (j : Nat) (su : List Int), j <= 8 /\ i = .int .i64 j /\ XM wr B su /\ w.grownBy wr (some B) /\ (∀ q, q < 8 -> Qb su q = if q < j then (Qb st q + Qb ls q) % 4294967296 else Qb st q)) (fun i _ => 8 - (intOf i).toNat)
      case atStart => exact ⟨0, st, by omega, rfl, hr3, hg, fun q hq => by rw [if_neg (by omega)]⟩
      case round =>
        clear hr3 hg
        obtain ⟨j, su, hj, rfl, hr3, hg, hsu⟩ := hrel
        by_cases hjl : j < 8
        . have hix : ∀ w, (Instr.index 88 (XN .u32 ls) (.int .i64 (j : Int))).run Tryz.prog w = .ok (.int .u32 (Qb ls j)) w := fun w => by
            have h := Fd (w := w) (P := Tryz.prog) 88 8 85 Tryz.underlying88 _ Tryz.underlying85 rfl (by kernel_rfl) .u32 ls hls (j : Int) (by omega) (by omega)
            rwa [Int.toNat_natCast] at h
          obtain ⟨cj, fj⟩ := hr3.stAt hjl
          have hsj := hsu j hjl
          rw [if_neg (by omega)] at hsj
          rw [hsj] at cj
          have hjI : (j : Int) < 8 := by omega
          replace hsj := Lib.hid hsj
          replace hsu := Lib.hid hsu
          go_wp2
          go_still_tail 11, (by kernel_rfl)
          change wpList _ _ _ _ _ wr.drew
          go_wp2
          refine ⟨?_, ?_⟩
          . apply Exists.intro (α := Value)
            apply Exists.intro (α := Value)
            refine Exists.intro (Value.int .i64 ((j : Int) + 1)) ?_
            repeat apply Exists.intro (α := Value)
            refine ⟨⟨j + 1, su.set j ((Qb st j + Qb ls j) % 4294967296), by omega, by go_num, ?_, ?_, fun q hq => ?_⟩, rfl⟩
            . try simp only [IntKind.wrap_u64]
              have h := hr3.set hjl (K0 (Qb st j + Qb ls j))
              exact h
            . exact ZC (Xn hg _ _)
            . rw [Zv su j q _ (by rw [hr3.1]; exact hjl)]
              by_cases e : q = j
              . rw [if_pos e, if_pos (by omega), e]
              . rw [if_neg e, hsu.out q hq]
                by_cases e2 : q < j
                . rw [if_pos e2, if_pos (by omega)]
                . rw [if_neg e2, if_neg (by omega)]
          . show 8 - (intOf (Value.int .i64 ((j : Int) + 1))).toNat < 8 - (intOf (Value.int .i64 (j : Int))).toNat
            simp only [intOf]; omega
        . obtain rfl : j = 8 := by omega
          have e : su = Xb st zs := QZ (by rw [hr3.1, htk.out]; simp) fun q hq => by
            rw [hr3.1] at hq
            rw [hsu q hq, if_pos hq, htk.out, hlv.out]
            simp [Qb, hq]
          subst e
          go_wp2
          refine bodyPost_end (results_none rfl _ _ _) rfl ?_
          exact ⟨⟨_, rfl⟩, hr3, hg⟩
theorem Y1 (n : Int) (w : World) (h : n = 32 \/ n = 64) : Calls Tryz.prog 94 #[.int .i64 n] w fun e w' => e = .returned (.int .i64 (2 * n)) /\ w' = w := by
  rcases h with rfl | rfl
  all_goals
    go_enter Tryz.func94, Tryz.ntmps94
    go_wp2
    go_ret
    exact ⟨rfl, rfl⟩
theorem DH (n : Int) (w : World) (h : n = 32 \/ n = 64) : Calls Tryz.prog 135 #[.int .i64 n] w fun e w' => e = .returned (.int .i64 (n / 4)) /\ w' = w := by
  rcases h with rfl | rfl
  all_goals
    go_enter Tryz.func135, Tryz.ntmps135
    go_wp2
    go_ret
    exact ⟨rfl, rfl⟩
/-- How many bytes there are with what is Za. -/
def Za (n wd : Int) : Int := if n < 0 \/ 1099511627776 < n \/ (wd ≠ 32 /\ wd ≠ 64) then 0 else (n + 1 + wd / 4 + 2 * wd - 1) / (2 * wd) * (2 * wd)
theorem Qba (n wd : Int) (w : World) (hn : -9223372036854775808 <= n /\ n <= 9223372036854775807) (hw : -9223372036854775808 <= wd /\ wd <= 9223372036854775807) :
    Calls Tryz.prog 127 #[.int .i64 n, .int .i64 wd] w fun e w' => e = .returned (.int .i64 (Za n wd)) /\ w' = w := by
  by_cases h : n < 0 \/ 1099511627776 < n \/ (wd ≠ 32 /\ wd ≠ 64)
  . rw [show Za n wd = 0 from if_pos h]
    have hb : (decide (n < 0) || (decide (1099511627776 < n) || (decide (wd ≠ 32) && decide (wd ≠ 64)))) = true := by simpa using h
    by_cases h1 : n < 0
    . have d1 : decide (n < 0) = true := decide_eq_true h1
      go_enter Tryz.func127, Tryz.ntmps127
      go_wp2
      go_ret
      exact ⟨rfl, rfl⟩
    . by_cases h2 : 1099511627776 < n
      . go_enter Tryz.func127, Tryz.ntmps127
        go_wp2
        go_ret
        exact ⟨rfl, rfl⟩
      . have h3 : wd ≠ 32 /\ wd ≠ 64 := by omega
        obtain ⟨h4, h5⟩ := h3
        have b4 : (wd != 32) = true := by simpa using h4
        have b5 : (wd != 64) = true := by simpa using h5
        clear hb h h4 h5
        go_enter Tryz.func127, Tryz.ntmps127
        go_wp2
        go_ret
        exact ⟨rfl, rfl⟩
  . have h6 : wd = 32 \/ wd = 64 := by omega
    have h7 : ¬ n < 0 := by omega
    have h8 : ¬ 1099511627776 < n := by omega
    rw [show Za n wd = (n + 1 + wd / 4 + 2 * wd - 1) / (2 * wd) * (2 * wd) from if_neg h]
    clear h
    have HB := fun W => Y1 wd W h6
    have HL := fun W => DH wd W h6
    rcases h6 with rfl | rfl
    all_goals
      go_enter Tryz.func127, Tryz.ntmps127
      go_wp2_with (first
        | (go_at_call 94; (with_reducible refine (HB _).mono ?_); rintro e w1 ⟨rfl, rfl⟩)
        | (go_at_call 135; (with_reducible refine (HL _).mono ?_); rintro e w1 ⟨rfl, rfl⟩))
      go_ret
      exact ⟨rfl, rfl⟩
/-- The bytes of a state. -/
def Xi (st : List Int) : List Int := (List.range 64).map fun i => Qb st (i / 8) / 2 ^ (8 * (8 - 1 - i % 8)) % 256
theorem Es (st : List Int) (i : Nat) (h : i < 64) : Qb (Xi st) i = Qb st (i / 8) / 2 ^ (8 * (8 - 1 - i % 8)) % 256 := by simp [Xi, Qb, h]
set_option maxHeartbeats 1000000 in
theorem Qf4 (w : World) (B Bs : Nat) (st zs : List Int) (hr : XL w B st) (hz : Y4 .u8 w Bs zs) (hl : zs.length = 64) (hne : B ≠ Bs) :
    Calls Tryz.prog 51 #[.pointer (some ⟨B, 0, none⟩), .slice (some ⟨Bs, 0, none⟩) 64 64] w fun e w' => (∃ v, e = .returned v) /\ Y4 .u8 w' Bs (Xi st) /\ w.grownBy w' (some Bs) := by
  have hwd := hr.width
  go_enter Tryz.func51, Tryz.ntmps51
  go_wp2
  go_loopw [13] (fun i wr => ∃ (k : Nat) (ys : List Int), k <= 64 /\ i = .int .i64 k /\ XL wr B st /\ Y4 .u8 wr Bs ys /\ ys.length = 64 /\ w.grownBy wr (some Bs) /\ ∀ q, q < k -> Qb ys q = Qb (Xi st) q) (fun i _ => 64 - (intOf i).toNat)
  case atStart => exact ⟨0, zs, by omega, rfl, hr, hz, hl, World.grownBy.refl _ _, fun q h => by omega⟩
  case round =>
    clear hr hz hwd
    obtain ⟨k, ys, hk, rfl, hr, hz, hyl, hg, hys⟩ := hrel
    by_cases hlt : k < 64
    . have hk8 : k / 8 < 8 := by omega
      obtain ⟨cj, -⟩ := hr.stAt hk8
      have hsi := hr.stIn (k / 8)
      have cs := hz.cell (k := k) (by omega)
      have fs := hz.free (k := k) (by omega)
      have hat := Es st k hlt
      generalize Qb st (k / 8) = s at *
      obtain ⟨s0, s1⟩ := hsi
      obtain ⟨q, e1, hq⟩ : ∃ q : Nat, IntKind.i64.wrap ((k : Int) / 8) = (q : Int) /\ q = k / 8 := ⟨k / 8, by rw [XE (by omega) (by omega)]; omega, rfl⟩
      obtain ⟨r, e2, hr2⟩ : ∃ r : Nat, (k : Int).tmod 8 = (r : Int) /\ r = k % 8 := ⟨k % 8, by rw [Int.tmod_eq_emod_of_nonneg (by omega)]; omega, rfl⟩
      have e5 : IntKind.i64.wrap 7 = 7 := by decide
      obtain ⟨t, e3, ht⟩ : ∃ t : Nat, IntKind.i64.wrap ((7 : Int) - (r : Int)) = (t : Int) /\ t = 7 - r := ⟨7 - r, by rw [XE (by omega) (by omega)]; omega, rfl⟩
      obtain ⟨u, e4, hu⟩ : ∃ u : Nat, IntKind.i64.wrap ((8 : Int) * (t : Int)) = (u : Int) /\ u = 8 * t := ⟨8 * t, by rw [XE (by omega) (by omega)]; omega, rfl⟩
      have hu2 : 8 * (8 - 1 - k % 8) = u := by omega
      rw [hu2] at hat
      have hu3 : (u : Int) < 64 := by omega
      have hq8 : (q : Int) < 8 := by omega
      rw [<- hq] at cj
      clear hu2 hq hr2 ht hu hk8
      replace hat := Lib.hid hat
      replace hys := Lib.hid hys
      go_wp2
      go_still_tail 20, (by kernel_rfl)
      change wpList _ _ _ _ _ wr.drew
      go_wp2
      refine ⟨⟨k + 1, ys.set k (s / 2 ^ u % 256), by omega, by go_num, hr.but (ZC (Xn (World.grownBy.refl wr (some Bs)) k _)) (by simpa using hne), UE (hz.set k _), by simp [hyl], ZC (Xn hg _ _), fun q hq => ?_⟩, by simp only [intOf]; omega⟩
      rw [Zv ys k q _ (by omega)]
      by_cases e : q = k
      . rw [if_pos e, e, hat.out]
      . rw [if_neg e]; exact hys.out q (by omega)
    . obtain rfl : k = 64 := by omega
      have e : ys = Xi st := QZ (by rw [hyl]; simp [Xi]) fun q h => hys q (by rw [hyl] at h; exact h)
      subst e
      go_wp2
      refine bodyPost_end (results_none rfl _ _ _) rfl ?_
      exact ⟨⟨_, rfl⟩, hz, hg⟩
/-- The bytes of a state. -/
def Xl (st : List Int) : List Int := (List.range 32).map fun i => Qb st (i / 4) / 2 ^ (8 * (4 - 1 - i % 4)) % 256
theorem Et (st : List Int) (i : Nat) (h : i < 32) : Qb (Xl st) i = Qb st (i / 4) / 2 ^ (8 * (4 - 1 - i % 4)) % 256 := by simp [Xl, Qb, h]
set_option maxHeartbeats 1000000 in
theorem Qf5 (w : World) (B Bs : Nat) (st zs : List Int) (hr : XM w B st) (hz : Y4 .u8 w Bs zs) (hl : zs.length = 32) (hne : B ≠ Bs) :
    Calls Tryz.prog 65 #[.pointer (some ⟨B, 0, none⟩), .slice (some ⟨Bs, 0, none⟩) 32 32] w fun e w' => (∃ v, e = .returned v) /\ Y4 .u8 w' Bs (Xl st) /\ w.grownBy w' (some Bs) := by
  have hwd := hr.width
  go_enter Tryz.func65, Tryz.ntmps65
  go_wp2
  go_loopw [13] (fun i wr => ∃ (k : Nat) (ys : List Int), k <= 32 /\ i = .int .i64 k /\ XM wr B st /\ Y4 .u8 wr Bs ys /\ ys.length = 32 /\ w.grownBy wr (some Bs) /\ ∀ q, q < k -> Qb ys q = Qb (Xl st) q) (fun i _ => 32 - (intOf i).toNat)
  case atStart => exact ⟨0, zs, by omega, rfl, hr, hz, hl, World.grownBy.refl _ _, fun q h => by omega⟩
  case round =>
    clear hr hz hwd
    obtain ⟨k, ys, hk, rfl, hr, hz, hyl, hg, hys⟩ := hrel
    by_cases hlt : k < 32
    . have hk8 : k / 4 < 8 := by omega
      obtain ⟨cj, -⟩ := hr.stAt hk8
      have hsi := hr.stIn (k / 4)
      have cs := hz.cell (k := k) (by omega)
      have fs := hz.free (k := k) (by omega)
      have hat := Et st k hlt
      generalize Qb st (k / 4) = s at *
      obtain ⟨s0, s1⟩ := hsi
      obtain ⟨q, e1, hq⟩ : ∃ q : Nat, IntKind.i64.wrap ((k : Int) / 4) = (q : Int) /\ q = k / 4 := ⟨k / 4, by rw [XE (by omega) (by omega)]; omega, rfl⟩
      obtain ⟨r, e2, hr2⟩ : ∃ r : Nat, (k : Int).tmod 4 = (r : Int) /\ r = k % 4 := ⟨k % 4, by rw [Int.tmod_eq_emod_of_nonneg (by omega)]; omega, rfl⟩
      have e5 : IntKind.i64.wrap 3 = 3 := by decide
      obtain ⟨t, e3, ht⟩ : ∃ t : Nat, IntKind.i64.wrap ((3 : Int) - (r : Int)) = (t : Int) /\ t = 3 - r := ⟨3 - r, by rw [XE (by omega) (by omega)]; omega, rfl⟩
      obtain ⟨u, e4, hu⟩ : ∃ u : Nat, IntKind.i64.wrap ((8 : Int) * (t : Int)) = (u : Int) /\ u = 8 * t := ⟨8 * t, by rw [XE (by omega) (by omega)]; omega, rfl⟩
      have hu2 : 8 * (4 - 1 - k % 4) = u := by omega
      rw [hu2] at hat
      have hu3 : (u : Int) < 32 := by omega
      have hq8 : (q : Int) < 8 := by omega
      rw [<- hq] at cj
      clear hu2 hq hr2 ht hu hk8
      replace hat := Lib.hid hat
      replace hys := Lib.hid hys
      go_wp2
      go_still_tail 20, (by kernel_rfl)
      change wpList _ _ _ _ _ wr.drew
      go_wp2
      refine ⟨⟨k + 1, ys.set k (s / 2 ^ u % 256), by omega, by go_num, hr.but (ZC (Xn (World.grownBy.refl wr (some Bs)) k _)) (by simpa using hne), UE (hz.set k _), by simp [hyl], ZC (Xn hg _ _), fun q hq => ?_⟩, by simp only [intOf]; omega⟩
      rw [Zv ys k q _ (by omega)]
      by_cases e : q = k
      . rw [if_pos e, e, hat.out]
      . rw [if_neg e]; exact hys.out q (by omega)
    . obtain rfl : k = 32 := by omega
      have e : ys = Xl st := QZ (by rw [hyl]; simp [Xl]) fun q h => hys q (by rw [hyl] at h; exact h)
      subst e
      go_wp2
      refine bodyPost_end (results_none rfl _ _ _) rfl ?_
      exact ⟨⟨_, rfl⟩, hz, hg⟩
section
variable {P : Program} {ops : Array Oper} {md : Region.Mode}

/-- A variable that the region makes (operation ka) and stores v into (operation ks). -/
structure Qiq where
  ka : Nat
  ks : Nat
  K : IntKind
  n : Nat
  v : List Int
inductive QnG where
  | plain
  | alloc (it : Qiq)
  | store (it : Qiq)
variable {ds : List (Option Tmp)} {dl : List (List Nat)} {G : World -> Prop} {F : Eb} {base : Nat} {items : List Qiq} {a : Act}
end
end Go.Proofs.YtbiboamaigedjaaGreatDoor
--@optional
namespace Go.Proofs.YtbiboamaigedjaaGreatDoor
open Go.RowKit
set_option linter.unusedVariables false
set_option maxRecDepth 8000

end Go.Proofs.YtbiboamaigedjaaGreatDoor
namespace Go.Proofs.YtbiboamaigedjaaGreatDoor
open Go.RowKit
set_option linter.unusedVariables false
set_option linter.unusedSimpArgs false
set_option maxRecDepth 8000
set_option maxHeartbeats 2000000

section
variable {P : Program} {ops : Array Oper} {o : Oper} {a : Act} {w : World} {R : Value -> World -> Prop}

end
section
variable {P : Program} {ops : Array Oper} {o : Oper} {a : Act} {w : World} {R : Value -> World -> Prop}
end
section
variable {P : Program} {ops : Array Oper} {o : Oper} {a : Act} {w : World} {R : Value -> World -> Prop}
theorem FB (K : IntKind) (n m : Nat) : madeCells (Array.replicate n (Value.int K 0)) m = if n = 0 then madeCells #[] m else Array.replicate m (Value.int K 0) := by
  by_cases hn : n = 0
  . subst hn; simp
  . rw [if_neg hn]
    apply Array.ext
    . simp [madeCells]
    . intro i h1 h2
      simp [madeCells]
      have : i % n < n := Nat.mod_lt _ (by omega)
      simp [this]
end
section
variable {P : Program} {ops : Array Oper} {o : Oper} {rest : List Oper} {a : Act} {w : World} {Q : Exit -> Act -> World -> Prop}
theorem KD (hgd : o.guard = none) (d s : Operand) (t t' : TypeId) (ho : o.op = .call { callee := .builtin .copy, args := #[d, s], argTypes := #[t, t'] })
    (elem : TypeId) (hu : P.underlying t = some (.slice elem)) (hsz : (P.info? elem).map (·.size) = some 1) (B B' c c' n m : Nat) (hd : a.eval d = .slice (some ⟨B, 0, none⟩) n c) (hs : a.eval s = .slice (some ⟨B', 0, none⟩) m c') (K : IntKind) (zs ys : List Int)
    (hz : Y4 K w B zs) (hy : ∀ q, q < m -> w.cell? ⟨B', q, none⟩ = some (.int K (Qb ys q))) (hn : zs.length = n) (hm : ys.length = m) (hle : m <= n)
    (h : Y4 K (w.setRow B ((ys.take m ++ zs.drop m).map (Value.int K)).toArray) B (ys.take m ++ zs.drop m) -> wpList P ops Q rest (a.put o.dst (goInt m)) (w.setRow B ((ys.take m ++ zs.drop m).map (Value.int K)).toArray)) : wpList P ops Q (o :: rest) a w := by
  subst hn
  have h' := h (hz.setRow _)
  refine wpList_plain hgd fun KK hK => ?_
  have hlt : (ys.take m).length = m := by simp [hm]
  obtain ⟨tz, hz⟩ := hz
  have hcell : ∀ j v, ((ys.take m).map (Value.int K))[j]? = some v -> w.cell? ((⟨B', 0, none⟩ : Addr).add j) = some v := by
    intro j v hj
    have hjm : j < m := by
      have := (List.getElem?_eq_some_iff.1 hj).1
      simpa [hm] using this
    have hc := hy j hjm
    rw [Addr.add_lit, Nat.zero_add, hc, <- hj]
    simp [hjm, Qb, show j < ys.length by omega]
  have hr := run_copy_row (P := P) w t t' o.type elem B 0 zs.length c ⟨B', 0, none⟩ m c' _ tz ((ys.take m).map (Value.int K)) hu hsz hz (by rw [List.length_map, hlt]; exact (Nat.min_eq_left hle).symm) hcell (by simp only [List.size_toArray, List.length_map, hlt]; omega) (by intro v hv; obtain ⟨z, -, rfl⟩ := List.mem_map.1 hv; rfl)
  unfold Oper.wp execOp
  simp only [ho, resolve, invoke, builtin, Sem.run_bind, Sem.run_pure, Result.andThen_ok, List.map_toArray, List.map_cons, List.map_nil, hd, hs, hr]
  have e : (List.take 0 (zs.map (Value.int K)) ++ (ys.take m).map (Value.int K) ++ List.drop (0 + ((ys.take m).map (Value.int K)).length) (zs.map (Value.int K))) = (ys.take m ++ zs.drop m).map (Value.int K) := by
    rw [List.take_zero, List.nil_append, Nat.zero_add, List.length_map, hlt, List.map_append, List.map_drop]
  rw [e, List.length_map, hlt]
  exact hK _ _ h'
theorem KC (hgd : o.guard = none) (t e : TypeId) (x y : Operand) (ho : o.op = .makeSlice t x y) (hu : P.underlying t = some (.slice e)) (K : IntKind) (hz : (P.info? e).bind (·.zero) = some (Value.int K 0)) (hs : (P.info? e).map (·.size) = some 1) (hb : (P.info? e).map (·.bytes) = some 1)
    (l n : Nat) (hx : a.eval x = .int .i64 l) (hy : a.eval y = .int .i64 n) (hle : l <= n) (hn : (n : Int) <= 281474976710656)
    (h : ∀ w1, Y4 K w1 w.heap.size (List.replicate n 0) -> w.heap.size < w1.heap.size -> Below w.heap.size w w1 -> wpList P ops Q rest (a.put o.dst (.slice (some ⟨w.heap.size, 0, none⟩) l n)) w1) : wpList P ops Q (o :: rest) a w := by
  cases hi : P.info? e with
  | none => rw [hi] at hz; cases hz
  | some i =>
    rw [hi] at hz hs hb
    have hz' : i.zero = some (Value.int K 0) := hz
    have hs' : i.size = 1 := by simpa using hs
    have hb' : i.bytes = 1 := by simpa using hb
    refine wpList_plain hgd fun KK hK => ?_
    have hr := run_make w t e i _ hu hi hz' .i64 .i64 (l : Int) (n : Int) (by omega) (by omega) (by rw [hb']; omega) (by omega)
    have hm : madeCells (Value.int K 0).cells (n * 1) = ((List.replicate n (0 : Int)).map (Value.int K)).toArray := by
      have h1 := FB K 1 (n * 1)
      rw [if_neg (by decide)] at h1
      rw [show (Value.int K 0).cells = Array.replicate 1 (Value.int K 0) from rfl, h1]
      simp
    unfold Oper.wp execOp
    simp only [ho, hx, hy, Sem.run_bind, hr, Int.toNat_natCast, hs', hm]
    refine hK _ _ (h _ ⟨e, ?_⟩ (Array.getElem?_eq_some_iff.1 (heap_alloc_new w _)).1 ((Below.refl _ _).alloc (Nat.le_refl _) _))
    rw [heap_alloc_new]
end
theorem YO {a b c : World} {row : Option Nat} (h : a.grownBy b row) (k : b.grownBy c row) : a.grownBy c row :=
  ⟨k.os.trans h.os, k.tape.trans h.tape, k.output.trans h.output, Nat.le_trans h.size k.size, fun i hi hne => (k.block i (Nat.lt_of_lt_of_le hi h.size) hne).trans (h.block i hi hne)⟩
theorem Ua {K : IntKind} {w w' : World} {B : Nat} {zs : List Int} (h : Y4 K w B zs) {row : Option Nat} (hb : w.grownBy w' row) (hr : some B ≠ row) : Y4 K w' B zs := by
  have hl := h.lt
  obtain ⟨t, h⟩ := h
  exact ⟨t, by rw [hb.block B hl hr]; exact h⟩
theorem ER {w w' : World} {B : Nat} (h : w.grownBy w' (some B)) (p : Addr) (v : Value) (hp : w.heap.size <= p.block) : w.grownBy (w'.setCell p v) (some B) := by
  refine ⟨h.os, h.tape, h.output, ?_, fun k hk hne => ?_⟩
  . have := h.size
    simpa [World.setCell] using this
  . rw [heap_setCell_other w' p k v (by omega)]
    exact h.block k hk hne
/-- The number of bits, laid behind all, the highest byte first. -/
def Vc (p : List Int) (tot : Int) : Nat -> List Int
  | 0 => p
  | k + 1 => (Vc p tot k).set (p.length - 1 - k) (tot * 8 / 2 ^ (8 * k) % 256)
theorem Y0 (p : List Int) (tot : Int) : ∀ k, (Vc p tot k).length = p.length
  | 0 => rfl
  | k + 1 => by simp [Vc, Y0 p tot k]
theorem Ko {p : List Int} (h : Qh p) (tot : Int) : ∀ k, Qh (Vc p tot k)
  | 0 => h
  | k + 1 => fun x hx => by
    rcases List.mem_or_eq_of_mem_set hx with h' | rfl
    . exact Ko h tot k x h'
    . omega
/-- How many bytes so many have when they are Za. -/
def QL (n : Nat) : Nat := (n + 1 + 16 + 128 - 1) / 128 * 128
theorem Qfa (n : Nat) (h : n < 128) : Za (n : Int) 64 = (QL n : Nat) := by
  unfold Za QL
  rw [if_neg (by omega)]
  omega
theorem Ut (n : Nat) (h : n < 128) : n + 16 < QL n /\ QL n <= 256 /\ QL n % 128 = 0 := by unfold QL; omega
def Vw (hl : List Int) (n : Nat) : List Int := (hl.take n ++ List.replicate (QL n - n) 0).set n 128
theorem Fq (hl : List Int) (n : Nat) (h : n < 128) (hh : hl.length = n) : (Vw hl n).length = QL n := by
  have := Ut n h
  simp [Vw, hh]
  omega
/-- A state behind so many blocks. -/
def QT (st zs : List Int) : Nat -> List Int
  | 0 => st
  | k + 1 => Xa (QT st zs k) ((zs.drop (k * 128)).take 128)
set_option maxHeartbeats 4000000 in
theorem Qhw (w : World) (B : Nat) (st : List Int) (hr : XL w B st) (hT : Zl w) (hs : 1 ≠ B) (hc : 5 ≠ B) (Bh : Nat) (hl : List Int) (n : Nat) (hA : ∀ q, q < n -> w.cell? ⟨Bh, q, none⟩ = some (.int .u8 (Qb hl q))) (hll : hl.length = n) (hn : n < 128) (hby : Qh hl) (tot : Int) (ht0 : 0 <= tot) (ht1 : tot < 72057594037927936) :
    Calls Tryz.prog 96 #[.pointer (some ⟨B, 0, none⟩), .slice (some ⟨Bh, 0, none⟩) n 128, .int .i64 tot] w fun e w' => (∃ v, e = .returned v) /\ XL w' B (QT st (Vc (Vw hl n) tot 8) (QL n / 128)) /\ w.grownBy w' (some B) := by
  have hB := hr.lt
  have hwd := hr.width
  have hpn := Ut n hn
  have hpl := Fq hl n hn hll
  have hpb : Qh (Vw hl n) := fun x hx => by
    rcases List.mem_or_eq_of_mem_set hx with h | rfl
    . rcases List.mem_append.1 h with h | h
      . exact hby x (List.mem_of_mem_take h)
      . obtain ⟨-, rfl⟩ := List.mem_replicate.1 h; decide
    . decide
  have HP : ∀ W, Calls Tryz.prog 127 #[.int .i64 (n : Int), .int .i64 64] W fun e w' => e = .returned (.int .i64 ((QL n : Nat) : Int)) /\ w' = W := fun W => by
    have h := Qba (n : Int) 64 W (by omega) (by omega)
    rw [Qfa n hn] at h
    exact h
  have hp0 : (hl.take n ++ List.replicate (QL n - n) 0).set n 128 = Vw hl n := rfl
  have hrd : (List.replicate (QL n) (0 : Int)).drop n = List.replicate (QL n - n) 0 := by simp
  have hla : (hl.take n ++ List.replicate (QL n - n) (0 : Int)).length = QL n := by simp [hll]; omega
  obtain ⟨q0, hq0⟩ : ∃ q, hl.take n ++ List.replicate (QL n - n) (0 : Int) = q := ⟨_, rfl⟩
  rw [hq0] at hp0 hla
  generalize Vw hl n = pb at *
  generalize QL n = pn at *
  go_enter Tryz.func96, Tryz.ntmps96
  go_wp2_with (first
    | (go_at_call 127; (with_reducible refine (HP _).mono ?_); rintro e w1 ⟨rfl, rfl⟩)
    | (with_reducible refine YF 17 ?_; refine KC rfl 23 5 _ _ rfl Tryz.underlying23 .u8 (by kernel_rfl) (by kernel_rfl) (by kernel_rfl) pn pn rfl rfl (Nat.le_refl _) (by omega) ?_; intro w2 A2 s2 b2; have hr2 := hr.below b2; have hT2 := hT.below b2; have hA2 : ∀ q, q < n -> w2.cell? ⟨Bh, q, none⟩ = some (.int .u8 (Qb hl q)) := fun q hq => by rw [b2.cell (World.block_lt_of_cell? _ _ (hA q hq))]; exact hA q hq)
    | (with_reducible refine YF 20 ?_; refine KD rfl _ _ _ _ rfl 5 Tryz.underlying23 (by kernel_rfl) w1.heap.size Bh _ _ pn n rfl rfl .u8 _ hl A2 hA2 (by simp) hll (by omega) ?_; rw [hrd, hq0]; intro A3; have c3 := A3.cell (k := n) (by omega); have f3 := A3.free (k := n) (by omega)))
  have hs2 := b2.size
  have hrA : XL ((w2.setRow w1.heap.size (q0.map (Value.int .u8)).toArray).setCell ⟨w1.heap.size, n, none⟩ (.int .u8 128)) B st := hr2.but (Xn (Yj _ _ _) _ _) (by simp; omega)
  have hTA : Zl ((w2.setRow w1.heap.size (q0.map (Value.int .u8)).toArray).setCell ⟨w1.heap.size, n, none⟩ (.int .u8 128)) := hT2.but (Xn (Yj _ _ _) _ _) (by have := hT.lt.1; omega) (by have := hT.lt.2; omega)
  have hgA : w1.grownBy ((w2.setRow w1.heap.size (q0.map (Value.int .u8)).toArray).setCell ⟨w1.heap.size, n, none⟩ (.int .u8 128)) (some B) := V2 ((Zp b2 (Nat.le_refl _) _).setCell (Nat.le_refl _) _) B
  have A4 := A3.set n 128
  rw [hp0] at A4
  generalize (w2.setRow w1.heap.size (q0.map (Value.int .u8)).toArray).setCell ⟨w1.heap.size, n, none⟩ (.int .u8 128) = w4 at *
  clear hr2 hT2 hA2 A2 A3 c3 f3 hp0 hla hrd hq0 hwd HP
  go_loopw [28] (fun i wr => ∃ (k : Nat), k <= 8 /\ i = .int .i64 k /\ XL wr B st /\ Zl wr /\ Y4 .u8 wr w1.heap.size (Vc pb tot k) /\ w1.grownBy wr (some B)) (fun i _ => 8 - (intOf i).toNat)
  case atStart => exact ⟨0, by omega, rfl, hrA, hTA, A4, hgA⟩
  case round =>
    clear hrA hTA A4 hgA
    obtain ⟨k, hk, rfl, hr4, hT4, A4, hg4⟩ := hrel
    have hl4 := Y0 pb tot k
    by_cases hlt : k < 8
    . have hnx : Vc pb tot (k + 1) = (Vc pb tot k).set (pn - 1 - k) (tot * 8 / 2 ^ (8 * k) % 256) := by rw [<- hpl]; rfl
      generalize Vc pb tot k = ps at *
      obtain ⟨j, e1, ej⟩ : ∃ j : Nat, (pn : Int) - 1 - (k : Int) = (j : Int) /\ pn - 1 - k = j := ⟨pn - 1 - k, by omega, rfl⟩
      rw [ej] at hnx
      have hj : j < pn := by omega
      have hjI : (j : Int) < pn := by omega
      have cj := A4.cell (k := j) (by omega)
      have fj := A4.free (k := j) (by omega)
      replace hnx := Lib.hid hnx
      clear ej
      go_wp2
      refine ⟨⟨k + 1, by omega, by go_num, hr4.but (Xn (World.grownBy.refl wr (some w1.heap.size)) j _) (by simp; omega), hT4.but (Xn (World.grownBy.refl wr (some w1.heap.size)) j _) (by have := hT.lt.1; omega) (by have := hT.lt.2; omega), ?_, ?_⟩, by simp only [intOf]; omega⟩
      . rw [hnx.out]
        exact A4.set j _
      . exact ER hg4 _ _ (Nat.le_refl _)
    . obtain rfl : k = 8 := by omega
      have hwd := hr4.width
      have hpsb := Ko hpb tot 8
      generalize hps : Vc pb tot 8 = ps at *
      replace hps := Lib.hid hps
      have HBS := fun W => Y1 64 W (by omega)
      obtain ⟨nb, hnb⟩ : ∃ nb, pn / 128 = nb := ⟨_, rfl⟩
      have hpnb : pn = nb * 128 := by omega
      have hps0 : ps.length = pn := by rw [hl4, hpl]
      clear hl4
      replace hnb := Lib.hid hnb
      replace hpnb := Lib.hid hpnb
      go_wp2_with (first
        | (go_at_call 94; (with_reducible refine (HBS _).mono ?_); rintro e w9 ⟨rfl, rfl⟩))
      go_loopw [6] (fun v wr => ∃ (k m o' : Nat), k <= nb /\ m = pn - k * 128 /\ (0 < m -> o' = k * 128) /\ v = .slice (some ⟨w1.heap.size, o', none⟩) m m /\ XL wr B (QT st ps k) /\ Zl wr /\ Y4 .u8 wr w1.heap.size ps /\ w1.grownBy wr (some B)) (fun v _ => match v with | .slice _ n _ => n | _ => 0)
      case atStart => exact ⟨0, pn, 0, by omega, by omega, fun _ => by omega, rfl, hr4, hT4, A4, hg4⟩
      case round =>
        clear hr4 hT4 A4 hg4 hwd
        obtain ⟨k, m, o', hk, hm, ho', rfl, hr4, hT4, A4, hg4⟩ := hrel
        have hpn2 := hpnb.out
        by_cases hlt : k < nb
        . obtain rfl : o' = k * 128 := ho' (by omega)
          clear ho'
          have hmI : (0 : Int) < (m : Int) := by omega
          have hmB : (128 : Int) <= (m : Int) := by omega
          have hlen : ((ps.drop (k * 128)).take 128).length = 128 := by simp; omega
          have hv : UF .u8 wr (.slice (some ⟨w1.heap.size, k * 128, none⟩) 128 m) ((ps.drop (k * 128)).take 128) := by
            refine ⟨some ⟨w1.heap.size, k * 128, none⟩, m, by rw [hlen], by omega, by unfold maxLen; omega, fun q hq => ⟨_, _, rfl, ?_⟩, by simp⟩
            rw [hlen] at hq
            have hcq := A4.cell (k := k * 128 + q) (by omega)
            rw [hcq]
            simp [Qb, hq]
          have hvb : Qh ((ps.drop (k * 128)).take 128) := fun x hx => hpsb x (List.mem_of_mem_drop (List.mem_of_mem_take hx))
          have hnx : QT st ps (k + 1) = Xa (QT st ps k) ((ps.drop (k * 128)).take 128) := rfl
          generalize (ps.drop (k * 128)).take 128 = zs at *
          generalize QT st ps k = s1 at *
          have HT := QaA wr B s1 hr4 hT4 hs hc _ zs hv hvb hlen
          replace hnx := Lib.hid hnx
          replace hm := Lib.hid hm
          clear hpn2
          go_wp2_with (first
            | (go_at_call 95; (with_reducible refine HT.mono ?_); rintro e w9 ⟨⟨v9, rfl⟩, hr9, hg9⟩))
          have hm2 := hm.out
          have hpn3 := hpnb.out
          have hne : B ≠ w1.heap.size := by omega
          have hT9 := hT4.but hg9 hs hc
          have A9 := Ua A4 hg9 (by simpa using fun e => hne e.symm)
          have hg10 := YO hg4 hg9
          by_cases e : m = 128
          . rw [if_pos e]
            refine ⟨⟨k + 1, m - 128, k * 128, by omega, by omega, fun h => by omega, rfl, ?_, hT9, A9, hg10⟩, by show m - 128 < m; omega⟩
            rw [hnx.out]; exact hr9
          . rw [if_neg e]
            refine ⟨⟨k + 1, m - 128, k * 128 + 128, by omega, by omega, fun h => by omega, rfl, ?_, hT9, A9, hg10⟩, by show m - 128 < m; omega⟩
            rw [hnx.out]; exact hr9
        . obtain rfl : k = nb := by omega
          have hm0 : m = 0 := by omega
          subst hm0
          clear hm hpn2
          go_wp2
          refine bodyPost_end (results_none rfl _ _ _) rfl ?_
          rw [hnb.out, hps.out]
          exact ⟨⟨_, rfl⟩, hr4, hg4⟩
/-- How many bytes so many have when they are Za. -/
def QM (n : Nat) : Nat := (n + 1 + 8 + 64 - 1) / 64 * 64
theorem Qfb (n : Nat) (h : n < 64) : Za (n : Int) 32 = (QM n : Nat) := by
  unfold Za QM
  rw [if_neg (by omega)]
  omega
theorem Uu (n : Nat) (h : n < 64) : n + 8 < QM n /\ QM n <= 128 /\ QM n % 64 = 0 := by unfold QM; omega
def Vx (hl : List Int) (n : Nat) : List Int := (hl.take n ++ List.replicate (QM n - n) 0).set n 128
theorem Fs (hl : List Int) (n : Nat) (h : n < 64) (hh : hl.length = n) : (Vx hl n).length = QM n := by
  have := Uu n h
  simp [Vx, hh]
  omega
/-- A state behind so many blocks. -/
def QU (st zs : List Int) : Nat -> List Int
  | 0 => st
  | k + 1 => Xb (QU st zs k) ((zs.drop (k * 64)).take 64)
set_option maxHeartbeats 4000000 in
theorem Qhx (w : World) (B : Nat) (st : List Int) (hr : XM w B st) (hT : Zl w) (hs : 1 ≠ B) (hc : 5 ≠ B) (Bh : Nat) (hl : List Int) (n : Nat) (hA : ∀ q, q < n -> w.cell? ⟨Bh, q, none⟩ = some (.int .u8 (Qb hl q))) (hll : hl.length = n) (hn : n < 64) (hby : Qh hl) (tot : Int) (ht0 : 0 <= tot) (ht1 : tot < 72057594037927936) :
    Calls Tryz.prog 103 #[.pointer (some ⟨B, 0, none⟩), .slice (some ⟨Bh, 0, none⟩) n 64, .int .i64 tot] w fun e w' => (∃ v, e = .returned v) /\ XM w' B (QU st (Vc (Vx hl n) tot 8) (QM n / 64)) /\ w.grownBy w' (some B) := by
  have hB := hr.lt
  have hwd := hr.width
  have hpn := Uu n hn
  have hpl := Fs hl n hn hll
  have hpb : Qh (Vx hl n) := fun x hx => by
    rcases List.mem_or_eq_of_mem_set hx with h | rfl
    . rcases List.mem_append.1 h with h | h
      . exact hby x (List.mem_of_mem_take h)
      . obtain ⟨-, rfl⟩ := List.mem_replicate.1 h; decide
    . decide
  have HP : ∀ W, Calls Tryz.prog 127 #[.int .i64 (n : Int), .int .i64 32] W fun e w' => e = .returned (.int .i64 ((QM n : Nat) : Int)) /\ w' = W := fun W => by
    have h := Qba (n : Int) 32 W (by omega) (by omega)
    rw [Qfb n hn] at h
    exact h
  have hp0 : (hl.take n ++ List.replicate (QM n - n) 0).set n 128 = Vx hl n := rfl
  have hrd : (List.replicate (QM n) (0 : Int)).drop n = List.replicate (QM n - n) 0 := by simp
  have hla : (hl.take n ++ List.replicate (QM n - n) (0 : Int)).length = QM n := by simp [hll]; omega
  obtain ⟨q0, hq0⟩ : ∃ q, hl.take n ++ List.replicate (QM n - n) (0 : Int) = q := ⟨_, rfl⟩
  rw [hq0] at hp0 hla
  generalize Vx hl n = pb at *
  generalize QM n = pn at *
  go_enter Tryz.func103, Tryz.ntmps103
  go_wp2_with (first
    | (go_at_call 127; (with_reducible refine (HP _).mono ?_); rintro e w1 ⟨rfl, rfl⟩)
    | (with_reducible refine YF 17 ?_; refine KC rfl 23 5 _ _ rfl Tryz.underlying23 .u8 (by kernel_rfl) (by kernel_rfl) (by kernel_rfl) pn pn rfl rfl (Nat.le_refl _) (by omega) ?_; intro w2 A2 s2 b2; have hr2 := hr.below b2; have hT2 := hT.below b2; have hA2 : ∀ q, q < n -> w2.cell? ⟨Bh, q, none⟩ = some (.int .u8 (Qb hl q)) := fun q hq => by rw [b2.cell (World.block_lt_of_cell? _ _ (hA q hq))]; exact hA q hq)
    | (with_reducible refine YF 20 ?_; refine KD rfl _ _ _ _ rfl 5 Tryz.underlying23 (by kernel_rfl) w1.heap.size Bh _ _ pn n rfl rfl .u8 _ hl A2 hA2 (by simp) hll (by omega) ?_; rw [hrd, hq0]; intro A3; have c3 := A3.cell (k := n) (by omega); have f3 := A3.free (k := n) (by omega)))
  have hs2 := b2.size
  have hrA : XM ((w2.setRow w1.heap.size (q0.map (Value.int .u8)).toArray).setCell ⟨w1.heap.size, n, none⟩ (.int .u8 128)) B st := hr2.but (Xn (Yj _ _ _) _ _) (by simp; omega)
  have hTA : Zl ((w2.setRow w1.heap.size (q0.map (Value.int .u8)).toArray).setCell ⟨w1.heap.size, n, none⟩ (.int .u8 128)) := hT2.but (Xn (Yj _ _ _) _ _) (by have := hT.lt.1; omega) (by have := hT.lt.2; omega)
  have hgA : w1.grownBy ((w2.setRow w1.heap.size (q0.map (Value.int .u8)).toArray).setCell ⟨w1.heap.size, n, none⟩ (.int .u8 128)) (some B) := V2 ((Zp b2 (Nat.le_refl _) _).setCell (Nat.le_refl _) _) B
  have A4 := A3.set n 128
  rw [hp0] at A4
  generalize (w2.setRow w1.heap.size (q0.map (Value.int .u8)).toArray).setCell ⟨w1.heap.size, n, none⟩ (.int .u8 128) = w4 at *
  clear hr2 hT2 hA2 A2 A3 c3 f3 hp0 hla hrd hq0 hwd HP
  go_loopw [28] (fun i wr => ∃ (k : Nat), k <= 8 /\ i = .int .i64 k /\ XM wr B st /\ Zl wr /\ Y4 .u8 wr w1.heap.size (Vc pb tot k) /\ w1.grownBy wr (some B)) (fun i _ => 8 - (intOf i).toNat)
  case atStart => exact ⟨0, by omega, rfl, hrA, hTA, A4, hgA⟩
  case round =>
    clear hrA hTA A4 hgA
    obtain ⟨k, hk, rfl, hr4, hT4, A4, hg4⟩ := hrel
    have hl4 := Y0 pb tot k
    by_cases hlt : k < 8
    . have hnx : Vc pb tot (k + 1) = (Vc pb tot k).set (pn - 1 - k) (tot * 8 / 2 ^ (8 * k) % 256) := by rw [<- hpl]; rfl
      generalize Vc pb tot k = ps at *
      obtain ⟨j, e1, ej⟩ : ∃ j : Nat, (pn : Int) - 1 - (k : Int) = (j : Int) /\ pn - 1 - k = j := ⟨pn - 1 - k, by omega, rfl⟩
      rw [ej] at hnx
      have hj : j < pn := by omega
      have hjI : (j : Int) < pn := by omega
      have cj := A4.cell (k := j) (by omega)
      have fj := A4.free (k := j) (by omega)
      replace hnx := Lib.hid hnx
      clear ej
      go_wp2
      refine ⟨⟨k + 1, by omega, by go_num, hr4.but (Xn (World.grownBy.refl wr (some w1.heap.size)) j _) (by simp; omega), hT4.but (Xn (World.grownBy.refl wr (some w1.heap.size)) j _) (by have := hT.lt.1; omega) (by have := hT.lt.2; omega), ?_, ?_⟩, by simp only [intOf]; omega⟩
      . rw [hnx.out]
        exact A4.set j _
      . exact ER hg4 _ _ (Nat.le_refl _)
    . obtain rfl : k = 8 := by omega
      have hwd := hr4.width
      have hpsb := Ko hpb tot 8
      generalize hps : Vc pb tot 8 = ps at *
      replace hps := Lib.hid hps
      have HBS := fun W => Y1 32 W (by omega)
      obtain ⟨nb, hnb⟩ : ∃ nb, pn / 64 = nb := ⟨_, rfl⟩
      have hpnb : pn = nb * 64 := by omega
      have hps0 : ps.length = pn := by rw [hl4, hpl]
      clear hl4
      replace hnb := Lib.hid hnb
      replace hpnb := Lib.hid hpnb
      go_wp2_with (first
        | (go_at_call 94; (with_reducible refine (HBS _).mono ?_); rintro e w9 ⟨rfl, rfl⟩))
      go_loopw [6] (fun v wr => ∃ (k m o' : Nat), k <= nb /\ m = pn - k * 64 /\ (0 < m -> o' = k * 64) /\ v = .slice (some ⟨w1.heap.size, o', none⟩) m m /\ XM wr B (QU st ps k) /\ Zl wr /\ Y4 .u8 wr w1.heap.size ps /\ w1.grownBy wr (some B)) (fun v _ => match v with | .slice _ n _ => n | _ => 0)
      case atStart => exact ⟨0, pn, 0, by omega, by omega, fun _ => by omega, rfl, hr4, hT4, A4, hg4⟩
      case round =>
        clear hr4 hT4 A4 hg4 hwd
        obtain ⟨k, m, o', hk, hm, ho', rfl, hr4, hT4, A4, hg4⟩ := hrel
        have hpn2 := hpnb.out
        by_cases hlt : k < nb
        . obtain rfl : o' = k * 64 := ho' (by omega)
          clear ho'
          have hmI : (0 : Int) < (m : Int) := by omega
          have hmB : (64 : Int) <= (m : Int) := by omega
          have hlen : ((ps.drop (k * 64)).take 64).length = 64 := by simp; omega
          have hv : UF .u8 wr (.slice (some ⟨w1.heap.size, k * 64, none⟩) 64 m) ((ps.drop (k * 64)).take 64) := by
            refine ⟨some ⟨w1.heap.size, k * 64, none⟩, m, by rw [hlen], by omega, by unfold maxLen; omega, fun q hq => ⟨_, _, rfl, ?_⟩, by simp⟩
            rw [hlen] at hq
            have hcq := A4.cell (k := k * 64 + q) (by omega)
            rw [hcq]
            simp [Qb, hq]
          have hvb : Qh ((ps.drop (k * 64)).take 64) := fun x hx => hpsb x (List.mem_of_mem_drop (List.mem_of_mem_take hx))
          have hnx : QU st ps (k + 1) = Xb (QU st ps k) ((ps.drop (k * 64)).take 64) := rfl
          generalize (ps.drop (k * 64)).take 64 = zs at *
          generalize QU st ps k = s1 at *
          have HT := QaB wr B s1 hr4 hT4 hs hc _ zs hv hvb hlen
          replace hnx := Lib.hid hnx
          replace hm := Lib.hid hm
          clear hpn2
          go_wp2_with (first
            | (go_at_call 102; (with_reducible refine HT.mono ?_); rintro e w9 ⟨⟨v9, rfl⟩, hr9, hg9⟩))
          have hm2 := hm.out
          have hpn3 := hpnb.out
          have hne : B ≠ w1.heap.size := by omega
          have hT9 := hT4.but hg9 hs hc
          have A9 := Ua A4 hg9 (by simpa using fun e => hne e.symm)
          have hg10 := YO hg4 hg9
          by_cases e : m = 64
          . rw [if_pos e]
            refine ⟨⟨k + 1, m - 64, k * 64, by omega, by omega, fun h => by omega, rfl, ?_, hT9, A9, hg10⟩, by show m - 64 < m; omega⟩
            rw [hnx.out]; exact hr9
          . rw [if_neg e]
            refine ⟨⟨k + 1, m - 64, k * 64 + 64, by omega, by omega, fun h => by omega, rfl, ?_, hT9, A9, hg10⟩, by show m - 64 < m; omega⟩
            rw [hnx.out]; exact hr9
        . obtain rfl : k = nb := by omega
          have hm0 : m = 0 := by omega
          subst hm0
          clear hm hpn2
          go_wp2
          refine bodyPost_end (results_none rfl _ _ _) rfl ?_
          rw [hnb.out, hps.out]
          exact ⟨⟨_, rfl⟩, hr4, hg4⟩
theorem F0 {a b : List Int} (ha : ∀ x ∈ a, 0 <= x /\ x <= 255) (hb : ∀ x ∈ b, 0 <= x /\ x <= 255) : Qh (a ++ b) := fun x hx => (List.mem_append.1 hx).elim (ha x) (hb x)
/-- A slice of slices of bytes. -/
def RdP (w : World) (v : Value) (ps : List (Value × List Int)) : Prop :=
  ∃ a cap, v = .slice a ps.length cap /\ (ps.length <= cap /\ cap <= maxLen) /\ (∀ k (hk : k < ps.length), ∃ x o, a = some ⟨x, o, none⟩ /\ w.cell? ⟨x, o + k, none⟩ = some (ps[k]'hk).1) /\ ∀ p ∈ ps, UF .u8 w p.1 p.2 /\ Qh p.2
/-- XD bytes of so many parts. -/
def Yz (ps : List (Value × List Int)) : List Int := (ps.map (·.2)).flatten
theorem J8 {ps : List (Value × List Int)} {i : Nat} (h : i < ps.length) : Yz (ps.take (i + 1)) = Yz (ps.take i) ++ (ps[i]'h).2 := by
  have e : ps.take (i + 1) = ps.take i ++ [ps[i]'h] := by rw [List.take_add_one, List.getElem?_eq_getElem h]; rfl
  rw [e]
  unfold Yz
  rw [List.map_append, List.flatten_append]
  simp only [List.map_cons, List.map_nil, List.flatten_cons, List.flatten_nil, List.append_nil]
theorem Gl (ps : List (Value × List Int)) (i : Nat) : (Yz (ps.take i)).length <= (Yz ps).length := by
  have h : Yz ps = Yz (ps.take i) ++ Yz (ps.drop i) := by
    rw [Yz, Yz, Yz, <- List.flatten_append, <- List.map_append, List.take_append_drop]
  rw [h, List.length_append]
  omega
theorem JX {ps : List (Value × List Int)} (h : ∀ p ∈ ps, Qh p.2) : Qh (Yz ps) := fun x hx => by
  obtain ⟨l, hl, hxl⟩ := List.mem_flatten.1 hx
  obtain ⟨p, hp, rfl⟩ := List.mem_map.1 hl
  exact h p hp x hxl
theorem Qbf {w : World} {base e n g cap : Nat} {xs : List Value} (h : w.ownsRow base e 1 (.slice (some ⟨g, 0, none⟩) n cap) n xs) : w.ownsRow base e 1 (.slice (some ⟨g, 0, none⟩) 0 cap) 0 [] := by
  obtain ⟨-, h2⟩ := h
  rcases h2 with ⟨h3, -⟩ | ⟨g', cap', cur, e', hb, hh, hn, hm, hs, ht⟩
  . cases h3
  . cases e'
    exact ⟨rfl, .inr ⟨g, cap, cur, rfl, hb, hh, Nat.zero_le _, hm, hs, by simp⟩⟩
theorem QbA {a b c : World} {B g : Nat} (h : a.grownBy b (some B)) (k : b.grownBy c (some g)) (hg : a.heap.size <= g) : a.grownBy c (some B) :=
  ⟨k.os.trans h.os, k.tape.trans h.tape, k.output.trans h.output, Nat.le_trans h.size k.size, fun i hi hne => (k.block i (Nat.lt_of_lt_of_le hi h.size) (by simp; omega)).trans (h.block i hi hne)⟩
theorem UF.cut {w : World} {x o n c cap : Nat} {zs : List Int} (h : UF .u8 w (.slice (some ⟨x, o, none⟩) n cap) zs) (hc : c <= zs.length) (q : Option Addr) (hq : c = cap \/ q = some ⟨x, o + c, none⟩) (hq2 : c = cap -> ∃ y, q = some y) : UF .u8 w (.slice q (n - c) (cap - c)) (zs.drop c) := by
  obtain ⟨a, cap', e, h1, h2, h3, h4⟩ := h
  cases e
  refine ⟨q, cap - c, by simp, by simp; omega, by omega, fun k hk => ?_, fun e => ?_⟩
  . have hk' : c + k < zs.length := by simp at hk; omega
    obtain ⟨x', o', e', hc'⟩ := h3 (c + k) hk'
    cases e'
    rcases hq with rfl | rfl
    . omega
    . exact ⟨x, o + c, rfl, by rw [Nat.add_assoc, hc', Qik]⟩
  . subst e
    rcases hq with hq | hq
    . omega
    . cases hq
theorem Ve (st D E : List Int) : ∀ k, k * 128 <= D.length -> QT st (D ++ E) k = QT st D k
  | 0, _ => rfl
  | k + 1, h => by
    show Xa (QT st (D ++ E) k) (((D ++ E).drop (k * 128)).take 128) = Xa (QT st D k) ((D.drop (k * 128)).take 128)
    rw [Ve st D E k (by omega), List.drop_append_of_le_length (by omega), List.take_append_of_le_length (by simp; omega)]
/-- The state and what is held behind so many bytes. -/
def U7 (st D : List Int) : List Int := QT st D (D.length / 128)
def XW (D : List Int) : List Int := D.drop (D.length / 128 * 128)
theorem Ku (D : List Int) : (XW D).length = D.length % 128 := by simp [XW]; omega
theorem Qc2 (st D E : List Int) (h : D.length % 128 + E.length < 128) : U7 st (D ++ E) = U7 st D /\ XW (D ++ E) = XW D ++ E := by
  have e : (D ++ E).length / 128 = D.length / 128 := by rw [List.length_append]; omega
  unfold U7 XW
  rw [e]
  exact ⟨Ve st D E _ (by omega), List.drop_append_of_le_length (by omega)⟩
theorem QbE (st D E : List Int) (h : D.length % 128 + E.length = 128) : U7 st (D ++ E) = Xa (U7 st D) (XW D ++ E) /\ XW (D ++ E) = [] := by
  have e : (D ++ E).length / 128 = D.length / 128 + 1 := by rw [List.length_append]; omega
  unfold U7 XW
  rw [e]
  constructor
  . show Xa (QT st (D ++ E) (D.length / 128)) (((D ++ E).drop (D.length / 128 * 128)).take 128) = _
    rw [Ve st D E _ (by omega), List.drop_append_of_le_length (by omega), List.take_of_length_le (by simp; omega)]
  . rw [List.drop_eq_nil_iff, List.length_append]; omega
theorem Qjv : ∃ i, Tryz.prog.info? 5 = some i /\ i.zero = some (.int .u8 0) /\ i.size = 1 /\ i.bytes = 1 := by
  have h : (Tryz.prog.info? 5).map (fun i => (i.zero, i.size, i.bytes)) = some (some (.int .u8 0), 1, 1) := by kernel_rfl
  obtain ⟨i, hi, hz⟩ := Option.map_eq_some_iff.1 h
  simp only [Prod.mk.injEq] at hz
  exact ⟨i, hi, hz.1, hz.2.1, hz.2.2⟩
set_option maxHeartbeats 4000000 in
theorem Qj5 (w0 w : World) (hb0 : Below w0.heap.size w0 w) (B : Nat) (st : List Int) (hr : XL w B st) (hBn : w0.heap.size <= B) (hT : Zl w0) (v : Value) (ps : List (Value × List Int)) (hp : RdP w0 v ps) (hlen : (Yz ps).length < 1099511627776) :
    Calls Tryz.prog 50 #[.pointer (some ⟨B, 0, none⟩), v] w fun e w' => (∃ v, e = .returned v) /\ XL w' B (QT (U7 st (Yz ps)) (Vc (Vw (XW (Yz ps)) ((Yz ps).length % 128)) ((Yz ps).length : Int) 8) (QL ((Yz ps).length % 128) / 128)) /\ w.grownBy w' (some B) := by
  obtain ⟨j0, hj, hy0, hy1, hy2⟩ := Qjv
  obtain ⟨a, cap, rfl, ⟨hpc, hcm⟩, hcell, hrd⟩ := hp
  have hpl : (ps.length : Int) <= 9223372036854775807 := by unfold maxLen at hcm; omega
  clear hpc hcm
  have hB := hr.lt
  have hwd := hr.width
  have hs0 := hb0.size
  replace hcell := Lib.hid hcell
  replace hrd := Lib.hid hrd
  have HBS := fun W => Y1 64 W (by omega)
  go_enter Tryz.func50, Tryz.ntmps50
  go_wp2_with (first
    | (go_at_call 94; (with_reducible refine (HBS _).mono ?_); rintro e w9 ⟨rfl, rfl⟩)
    | (with_reducible refine YF 16 ?_; refine wpList_make_own _ rfl _ _ 23 rfl w9.heap.size 5 j0 (.int .u8 0) 1 Tryz.underlying23 hj hy0 hy1 .i64 .i64 128 128 rfl rfl (by omega) (by rw [hy2]; omega) (by unfold maxLen; omega) (Nat.le_refl _) ?_; intro w1 hown1 hgr1))
  have hg1 : w9.grownBy w1 (some B) := ⟨hgr1.os, hgr1.tape, hgr1.output, hgr1.size, fun k hk _ => hgr1.block k hk (by simp)⟩
  have hr1 : XL w1 B st := hr.but hgr1 (by simp)
  clear hgr1 hwd
  go_loopw [5, 6, 19] (fun v5 v6 v19 wr => ∃ (i : Nat), i <= ps.length /\ v19 = .int .i64 i /\ v6 = .int .i64 ((Yz (ps.take i)).length : Nat) /\ v5 = .slice (some ⟨w9.heap.size, 0, none⟩) ((Yz (ps.take i)).length % 128) 128 /\ XL wr B (U7 st (Yz (ps.take i))) /\ wr.ownsRow w9.heap.size 5 1 (.slice (some ⟨w9.heap.size, 0, none⟩) ((Yz (ps.take i)).length % 128) 128) ((Yz (ps.take i)).length % 128) ((XW (Yz (ps.take i))).map (Value.int .u8)) /\ w9.grownBy wr (some B)) (fun _ _ i _ => ps.length - (intOf i).toNat)
  case atStart =>
    have z0 : Yz (ps.take 0) = [] := by rw [List.take_zero]; rfl
    have z1 : U7 st [] = st := by simp [U7, QT]
    have z2 : XW [] = [] := by simp [XW]
    refine ⟨0, by omega, rfl, by rw [z0]; rfl, by rw [z0]; rfl, by rw [z0, z1]; exact hr1, by rw [z0, z2]; exact hown1, hg1⟩
  case round =>
    clear hr1 hown1 hg1
    obtain ⟨i, hi, rfl, rfl, rfl, hr1, hown1, hg1⟩ := hrel
    have hB1 : Below w0.heap.size w0 wr := hb0.grown hg1 hs0 (fun k hk => by cases hk; exact hBn)
    by_cases hlt : i < ps.length
    . obtain ⟨x, o, rfl, hc⟩ := hcell.out i hlt
      obtain ⟨hrp, hbz⟩ := hrd.out _ (List.getElem_mem hlt)
      have hct := J8 hlt
      have hle := Gl ps (i + 1)
      rw [hct, List.length_append] at hle
      have hltI : (i : Int) < (ps.length : Int) := by omega
      have hltH := Lib.hid hlt
      have hbD : RowKit.Hid (Qh (Yz (ps.take i))) := Lib.hid (JX fun p hp => (hrd.out p (List.mem_of_mem_take hp)).2)
      generalize (ps[i]'hlt).2 = zs at *
      generalize (ps[i]'hlt).1 = pv at *
      generalize hD : Yz (ps.take i) = D at *
      replace hct := Lib.hid hct
      replace hD := Lib.hid hD
      replace hc : wr.cell? ⟨x, o + i, none⟩ = some pv := by rw [hB1.cell (World.block_lt_of_cell? w0 _ hc)]; exact hc
      obtain ⟨ap, capp, rfl, hp1, hp2, hp3, hp4⟩ := hrp
      have hrp : UF .u8 w0 (.slice ap zs.length capp) zs := ⟨ap, capp, rfl, hp1, hp2, hp3, hp4⟩
      replace hp3 := Lib.hid hp3
      replace hrp := Lib.hid hrp
      have hDn : ((D.length : Nat) : Int) < 1099511627776 := by omega
      have hzn : ((zs.length : Nat) : Int) < 1099511627776 := by omega
      have hDl : (D.length : Int) + (zs.length : Int) < 1099511627776 := by omega
      clear hp4 hle
      go_wp2
      go_loopw [5, 8] (fun v5 v8 wq => ∃ (E rest : List Int), zs = E ++ rest /\ UF .u8 w0 v8 rest /\ v5 = .slice (some ⟨w9.heap.size, 0, none⟩) ((D ++ E).length % 128) 128 /\ XL wq B (U7 st (D ++ E)) /\ wq.ownsRow w9.heap.size 5 1 (.slice (some ⟨w9.heap.size, 0, none⟩) ((D ++ E).length % 128) 128) ((D ++ E).length % 128) ((XW (D ++ E)).map (Value.int .u8)) /\ w9.grownBy wq (some B)) (fun _ v8 _ => match v8 with | .slice _ n _ => n | _ => 0)
      case atStart => exact ⟨[], zs, rfl, hrp.out, by rw [List.append_nil], by rw [List.append_nil]; exact hr1, by rw [List.append_nil]; exact hown1, hg1⟩
      case round =>
        clear hr1 hown1 hg1 hB1 hc
        obtain ⟨E, rest, hz, hrq, rfl, hr1, hown1, hg1⟩ := hrel
        have hB1 := hb0.grown hg1 hs0 (fun k hk => by cases hk; exact hBn)
        have hzl : zs.length = E.length + rest.length := by rw [hz, List.length_append]
        have hFl : (D ++ E).length = D.length + E.length := List.length_append
        have hbF' : Qh (D ++ E) := fun x hx => by
          rcases List.mem_append.1 hx with h | h
          . exact hbD.out x h
          . exact hbz x (by rw [hz]; simp [h])
        have hbr : Qh rest := fun x hx => hbz x (by rw [hz]; simp [hx])
        obtain ⟨aq, capq, rfl, q1, q2, q3, q4⟩ := hrq
        have hrq : UF .u8 w0 (.slice aq rest.length capq) rest := ⟨aq, capq, rfl, q1, q2, q3, q4⟩
        replace hrq := Lib.hid hrq
        replace q3 := Lib.hid q3
        by_cases hr0 : 0 < rest.length
        . obtain ⟨y, oy, rfl, -⟩ := q3.out 0 hr0
          have hn := Nat.mod_lt (D ++ E).length (show 0 < 128 by decide)
          have hhl := Ku (D ++ E)
          have hrI : (0 : Int) < (rest.length : Int) := by omega
          replace hz := Lib.hid hz
          replace hzl := Lib.hid hzl
          replace hFl := Lib.hid hFl
          generalize hF : D ++ E = F at *
          have hbF := Lib.hid hbF'
          clear hbF'
          replace hF := Lib.hid hF
          generalize hnn : F.length % 128 = n at *
          replace hnn := Lib.hid hnn
          obtain ⟨c, hcd⟩ : ∃ c, c = if n + rest.length < 128 then rest.length else 128 - n := ⟨_, rfl⟩
          have hc0 : 0 < c /\ c <= rest.length /\ n + c <= 128 /\ (n + c < 128 -> c = rest.length) := by split at hcd <;> omega
          have hmin : min ((128 : Int) - (n : Int)) (rest.length : Int) = (c : Int) := by split at hcd <;> omega
          obtain ⟨hc1, hc2, hc3, hc4⟩ := hc0
          have hcI : (c : Int) <= (rest.length : Int) := by omega
          have hcI0 : (0 : Int) <= (c : Int) := by omega
          have hnw : ((rest.take c).map (Value.int .u8)).length = c * 1 := by simp [hc2]
          have hcw : ∀ j u, ((rest.take c).map (Value.int .u8))[j]? = some u -> wr.cell? ((⟨y, oy, none⟩ : Addr).add j) = some u := fun j u hj => by
            have hjc : j < c := by
              have := (List.getElem?_eq_some_iff.1 hj).1
              rw [hnw] at this
              omega
            obtain ⟨y', oy', e, hcy⟩ := q3.out j (by omega)
            cases e
            rw [Addr.add_lit, hB1.cell (World.block_lt_of_cell? w0 _ hcy), hcy, <- hj]
            simp [hjc, Qb, show j < rest.length by omega]
          have hone : ∀ u ∈ (rest.take c).map (Value.int .u8), u.oneCell' = true := by
            intro u hu
            obtain ⟨z, -, rfl⟩ := List.mem_map.1 hu
            rfl
          replace hnw := Lib.hid hnw
          replace hcw := Lib.hid hcw
          replace hone := Lib.hid hone
          replace hcd := Lib.hid hcd
          replace hc4 := Lib.hid hc4
          clear q4 hzn hDn hDl
          have hG : D ++ (E ++ rest.take c) = F ++ rest.take c := by rw [<- List.append_assoc, hF.out]
          have hzc : zs = (E ++ rest.take c) ++ rest.drop c := by rw [List.append_assoc, List.take_append_drop]; exact hz.out
          have hXl : (rest.take c).length = c := by simp [hc2]
          have hBB : B ≠ w9.heap.size := by omega
          have hgB2 : ∀ w2, wr.grownBy w2 (some w9.heap.size) -> w9.grownBy w2 (some B) := fun w2 hg2 => QbA hg1 hg2 (Nat.le_refl _)
          have hTt := hT.lt
          have hTsq : 1 ≠ B := by omega
          have hTcu : 5 ≠ B := by omega
          have hcut : UF .u8 w0 (.slice (if capq = c then some ⟨y, oy, none⟩ else some ⟨y, oy + c, none⟩) (rest.length - c) (capq - c)) (rest.drop c) := by
            by_cases e : capq = c
            . rw [if_pos e]; exact UF.cut hrq.out hc2 (some ⟨y, oy, none⟩) (.inl e.symm) (fun _ => ⟨_, rfl⟩)
            . rw [if_neg e]; exact UF.cut hrq.out hc2 (some ⟨y, oy + c, none⟩) (.inr rfl) (fun _ => ⟨_, rfl⟩)
          replace hG := Lib.hid hG
          replace hzc := Lib.hid hzc
          replace hXl := Lib.hid hXl
          replace hgB2 := Lib.hid hgB2
          replace hcut := Lib.hid hcut
          clear hz
          by_cases hful : n + c = 128
          . have hfI : ((n : Nat) : Int) + ((c : Nat) : Int) = 128 := by omega
            have hff := QbE st F (rest.take c) (by rw [hnn.out, hXl.out, hful])
            have hvl : (XW F ++ rest.take c).length = 128 := by rw [List.length_append, hhl, hXl.out, hful]
            have hGl : (F ++ rest.take c).length % 128 = 0 := by rw [List.length_append, hXl.out]; have := hnn.out; omega
            have hvb : Qh (XW F ++ rest.take c) := F0 (fun x hx => ?hb1) (fun x hx => hbr x (List.mem_of_mem_take hx))
            case hb1 => exact hbF.out x (List.mem_of_mem_drop hx)
            obtain ⟨hff1, hff2⟩ := hff
            replace hff1 := Lib.hid hff1
            replace hff2 := Lib.hid hff2
            replace hvb := Lib.hid hvb
            replace hGl := Lib.hid hGl
            replace hvl := Lib.hid hvl
            go_wp2_with (first
              | (with_reducible refine YF 41 ?_; refine wpList_append_fits _ rfl _ _ 23 rfl w9.heap.size 5 j0 1 Tryz.underlying23 hj hy1 w9.heap.size n 128 _ rfl hown1 ⟨y, oy, none⟩ c capq _ rfl hnw.out hcw.out hone.out hc3 ?_; intro w2 hown2 hg2; rw [hful, <- List.map_append] at hown2; have hr2 := hr1.but hg2 (by simpa using hBB); have hgg2 := hgB2.out _ hg2; have hT2 : Zl w2 := hT.below (hb0.grown hgg2 hs0 (fun k hk => by cases hk; exact hBn)); have hv2 := UF.of_own hown2; have HT := QaA w2 B _ hr2 hT2 hTsq hTcu _ _ hv2 hvb.out hvl.out)
              | (go_at_call 95; (with_reducible refine HT.mono ?_); rintro e w3 ⟨⟨v9, rfl⟩, hr3, hg3⟩; have hown3 := Qbf (hown2.kept hg3 (.inr (by simpa [Value.ownBlock] using fun e => hBB e.symm))); have hgg3 := YO hgg2 hg3))
            refine ⟨⟨E ++ rest.take c, rest.drop c, hzc.out, hcut.out, by rw [hG.out, hGl.out], ?_, ?_, hgg3⟩, by show rest.length - c < rest.length; omega⟩
            . rw [hG.out, hff1.out]; exact hr3
            . rw [hG.out, hff2.out, hGl.out]; exact hown3
          . have hneI : ¬ (((n : Nat) : Int) + ((c : Nat) : Int) = 128) := by omega
            have hff := Qc2 st F (rest.take c) (by rw [hnn.out, hXl.out]; omega)
            have hGl : (F ++ rest.take c).length % 128 = n + c := by rw [List.length_append, hXl.out]; have := hnn.out; omega
            obtain ⟨hff1, hff2⟩ := hff
            replace hff1 := Lib.hid hff1
            replace hff2 := Lib.hid hff2
            replace hGl := Lib.hid hGl
            go_wp2_with (first
              | (with_reducible refine YF 41 ?_; refine wpList_append_fits _ rfl _ _ 23 rfl w9.heap.size 5 j0 1 Tryz.underlying23 hj hy1 w9.heap.size n 128 _ rfl hown1 ⟨y, oy, none⟩ c capq _ rfl hnw.out hcw.out hone.out hc3 ?_; intro w2 hown2 hg2; rw [<- List.map_append] at hown2; have hr2 := hr1.but hg2 (by simpa using hBB); have hgg2 := hgB2.out _ hg2))
            refine ⟨⟨E ++ rest.take c, rest.drop c, hzc.out, hcut.out, by rw [hG.out, hGl.out], ?_, ?_, hgg2⟩, by show rest.length - c < rest.length; omega⟩
            . rw [hG.out, hff1.out]; exact hr2
            . rw [hG.out, hff2.out, hGl.out]; exact hown2
        . have hre : rest = [] := List.length_eq_zero_iff.1 (by omega)
          subst hre
          rw [List.append_nil] at hz
          subst hz
          clear hrq q3
          go_wp2
          have hlt2 := hltH.out
          refine ⟨⟨i + 1, by omega, by go_num, ?_, by rw [hct.out], by rw [hct.out]; exact hr1, by rw [hct.out]; exact hown1, hg1⟩, by simp only [intOf]; omega⟩
          rw [hct.out, List.length_append, Int.natCast_add]
    . obtain rfl : i = ps.length := by omega
      rw [List.take_length] at hr1 hown1
      rw [List.take_length]
      generalize hD : Yz ps = D at *
      have hhl := Ku D
      have hbD : Qh (XW D) := fun x hx => by
        have := JX fun p hp => (hrd.out p hp).2
        rw [hD] at this
        exact this x (List.mem_of_mem_drop hx)
      have hT1 : Zl wr := hT.below hB1
      have hTt := hT.lt
      have hmod : D.length % 128 < 128 := Nat.mod_lt _ (by decide)
      have hcl : ∀ q, q < D.length % 128 -> wr.cell? ⟨w9.heap.size, q, none⟩ = some (.int .u8 (Qb (XW D) q)) := fun q hq => by
        have h := UF.of_own hown1
        obtain ⟨a', cap', e', h1, h2, h3, -⟩ := h
        obtain ⟨x', o', e2, hc2⟩ := h3 q (by rw [hhl]; exact hq)
        simp only [Value.slice.injEq] at e'
        obtain ⟨ea, -, -⟩ := e'
        rw [<- ea] at e2
        cases e2
        rwa [Nat.zero_add] at hc2
      have HL := Qhw wr B _ hr1 hT1 (by omega) (by omega) w9.heap.size (XW D) (D.length % 128) hcl hhl hmod hbD (D.length : Int) (by omega) (by omega)
      clear hcl hown1
      go_wp2_with (first
        | (go_at_call 96; (with_reducible refine HL.mono ?_); rintro e w3 ⟨⟨v9, rfl⟩, hr3, hg3⟩))
      refine bodyPost_end (results_none rfl _ _ _) rfl ?_
      rw [hD]
      exact ⟨⟨_, rfl⟩, hr3, YO hg1 hg3⟩
theorem Vg (st D E : List Int) : ∀ k, k * 64 <= D.length -> QU st (D ++ E) k = QU st D k
  | 0, _ => rfl
  | k + 1, h => by
    show Xb (QU st (D ++ E) k) (((D ++ E).drop (k * 64)).take 64) = Xb (QU st D k) ((D.drop (k * 64)).take 64)
    rw [Vg st D E k (by omega), List.drop_append_of_le_length (by omega), List.take_append_of_le_length (by simp; omega)]
/-- The state and what is held behind so many bytes. -/
def U8 (st D : List Int) : List Int := QU st D (D.length / 64)
def XX (D : List Int) : List Int := D.drop (D.length / 64 * 64)
theorem Kv (D : List Int) : (XX D).length = D.length % 64 := by simp [XX]; omega
theorem Qc3 (st D E : List Int) (h : D.length % 64 + E.length < 64) : U8 st (D ++ E) = U8 st D /\ XX (D ++ E) = XX D ++ E := by
  have e : (D ++ E).length / 64 = D.length / 64 := by rw [List.length_append]; omega
  unfold U8 XX
  rw [e]
  exact ⟨Vg st D E _ (by omega), List.drop_append_of_le_length (by omega)⟩
theorem QbF (st D E : List Int) (h : D.length % 64 + E.length = 64) : U8 st (D ++ E) = Xb (U8 st D) (XX D ++ E) /\ XX (D ++ E) = [] := by
  have e : (D ++ E).length / 64 = D.length / 64 + 1 := by rw [List.length_append]; omega
  unfold U8 XX
  rw [e]
  constructor
  . show Xb (QU st (D ++ E) (D.length / 64)) (((D ++ E).drop (D.length / 64 * 64)).take 64) = _
    rw [Vg st D E _ (by omega), List.drop_append_of_le_length (by omega), List.take_of_length_le (by simp; omega)]
  . rw [List.drop_eq_nil_iff, List.length_append]; omega
theorem Qjw : ∃ i, Tryz.prog.info? 5 = some i /\ i.zero = some (.int .u8 0) /\ i.size = 1 /\ i.bytes = 1 := by
  have h : (Tryz.prog.info? 5).map (fun i => (i.zero, i.size, i.bytes)) = some (some (.int .u8 0), 1, 1) := by kernel_rfl
  obtain ⟨i, hi, hz⟩ := Option.map_eq_some_iff.1 h
  simp only [Prod.mk.injEq] at hz
  exact ⟨i, hi, hz.1, hz.2.1, hz.2.2⟩
set_option maxHeartbeats 4000000 in
theorem Qj6 (w0 w : World) (hb0 : Below w0.heap.size w0 w) (B : Nat) (st : List Int) (hr : XM w B st) (hBn : w0.heap.size <= B) (hT : Zl w0) (v : Value) (ps : List (Value × List Int)) (hp : RdP w0 v ps) (hlen : (Yz ps).length < 1099511627776) :
    Calls Tryz.prog 64 #[.pointer (some ⟨B, 0, none⟩), v] w fun e w' => (∃ v, e = .returned v) /\ XM w' B (QU (U8 st (Yz ps)) (Vc (Vx (XX (Yz ps)) ((Yz ps).length % 64)) ((Yz ps).length : Int) 8) (QM ((Yz ps).length % 64) / 64)) /\ w.grownBy w' (some B) := by
  obtain ⟨j0, hj, hy0, hy1, hy2⟩ := Qjw
  obtain ⟨a, cap, rfl, ⟨hpc, hcm⟩, hcell, hrd⟩ := hp
  have hpl : (ps.length : Int) <= 9223372036854775807 := by unfold maxLen at hcm; omega
  clear hpc hcm
  have hB := hr.lt
  have hwd := hr.width
  have hs0 := hb0.size
  replace hcell := Lib.hid hcell
  replace hrd := Lib.hid hrd
  have HBS := fun W => Y1 32 W (by omega)
  go_enter Tryz.func64, Tryz.ntmps64
  go_wp2_with (first
    | (go_at_call 94; (with_reducible refine (HBS _).mono ?_); rintro e w9 ⟨rfl, rfl⟩)
    | (with_reducible refine YF 16 ?_; refine wpList_make_own _ rfl _ _ 23 rfl w9.heap.size 5 j0 (.int .u8 0) 1 Tryz.underlying23 hj hy0 hy1 .i64 .i64 64 64 rfl rfl (by omega) (by rw [hy2]; omega) (by unfold maxLen; omega) (Nat.le_refl _) ?_; intro w1 hown1 hgr1))
  have hg1 : w9.grownBy w1 (some B) := ⟨hgr1.os, hgr1.tape, hgr1.output, hgr1.size, fun k hk _ => hgr1.block k hk (by simp)⟩
  have hr1 : XM w1 B st := hr.but hgr1 (by simp)
  clear hgr1 hwd
  go_loopw [5, 6, 19] (fun v5 v6 v19 wr => ∃ (i : Nat), i <= ps.length /\ v19 = .int .i64 i /\ v6 = .int .i64 ((Yz (ps.take i)).length : Nat) /\ v5 = .slice (some ⟨w9.heap.size, 0, none⟩) ((Yz (ps.take i)).length % 64) 64 /\ XM wr B (U8 st (Yz (ps.take i))) /\ wr.ownsRow w9.heap.size 5 1 (.slice (some ⟨w9.heap.size, 0, none⟩) ((Yz (ps.take i)).length % 64) 64) ((Yz (ps.take i)).length % 64) ((XX (Yz (ps.take i))).map (Value.int .u8)) /\ w9.grownBy wr (some B)) (fun _ _ i _ => ps.length - (intOf i).toNat)
  case atStart =>
    have z0 : Yz (ps.take 0) = [] := by rw [List.take_zero]; rfl
    have z1 : U8 st [] = st := by simp [U8, QU]
    have z2 : XX [] = [] := by simp [XX]
    refine ⟨0, by omega, rfl, by rw [z0]; rfl, by rw [z0]; rfl, by rw [z0, z1]; exact hr1, by rw [z0, z2]; exact hown1, hg1⟩
  case round =>
    clear hr1 hown1 hg1
    obtain ⟨i, hi, rfl, rfl, rfl, hr1, hown1, hg1⟩ := hrel
    have hB1 : Below w0.heap.size w0 wr := hb0.grown hg1 hs0 (fun k hk => by cases hk; exact hBn)
    by_cases hlt : i < ps.length
    . obtain ⟨x, o, rfl, hc⟩ := hcell.out i hlt
      obtain ⟨hrp, hbz⟩ := hrd.out _ (List.getElem_mem hlt)
      have hct := J8 hlt
      have hle := Gl ps (i + 1)
      rw [hct, List.length_append] at hle
      have hltI : (i : Int) < (ps.length : Int) := by omega
      have hltH := Lib.hid hlt
      have hbD : RowKit.Hid (Qh (Yz (ps.take i))) := Lib.hid (JX fun p hp => (hrd.out p (List.mem_of_mem_take hp)).2)
      generalize (ps[i]'hlt).2 = zs at *
      generalize (ps[i]'hlt).1 = pv at *
      generalize hD : Yz (ps.take i) = D at *
      replace hct := Lib.hid hct
      replace hD := Lib.hid hD
      replace hc : wr.cell? ⟨x, o + i, none⟩ = some pv := by rw [hB1.cell (World.block_lt_of_cell? w0 _ hc)]; exact hc
      obtain ⟨ap, capp, rfl, hp1, hp2, hp3, hp4⟩ := hrp
      have hrp : UF .u8 w0 (.slice ap zs.length capp) zs := ⟨ap, capp, rfl, hp1, hp2, hp3, hp4⟩
      replace hp3 := Lib.hid hp3
      replace hrp := Lib.hid hrp
      have hDn : ((D.length : Nat) : Int) < 1099511627776 := by omega
      have hzn : ((zs.length : Nat) : Int) < 1099511627776 := by omega
      have hDl : (D.length : Int) + (zs.length : Int) < 1099511627776 := by omega
      clear hp4 hle
      go_wp2
      go_loopw [5, 8] (fun v5 v8 wq => ∃ (E rest : List Int), zs = E ++ rest /\ UF .u8 w0 v8 rest /\ v5 = .slice (some ⟨w9.heap.size, 0, none⟩) ((D ++ E).length % 64) 64 /\ XM wq B (U8 st (D ++ E)) /\ wq.ownsRow w9.heap.size 5 1 (.slice (some ⟨w9.heap.size, 0, none⟩) ((D ++ E).length % 64) 64) ((D ++ E).length % 64) ((XX (D ++ E)).map (Value.int .u8)) /\ w9.grownBy wq (some B)) (fun _ v8 _ => match v8 with | .slice _ n _ => n | _ => 0)
      case atStart => exact ⟨[], zs, rfl, hrp.out, by rw [List.append_nil], by rw [List.append_nil]; exact hr1, by rw [List.append_nil]; exact hown1, hg1⟩
      case round =>
        clear hr1 hown1 hg1 hB1 hc
        obtain ⟨E, rest, hz, hrq, rfl, hr1, hown1, hg1⟩ := hrel
        have hB1 := hb0.grown hg1 hs0 (fun k hk => by cases hk; exact hBn)
        have hzl : zs.length = E.length + rest.length := by rw [hz, List.length_append]
        have hFl : (D ++ E).length = D.length + E.length := List.length_append
        have hbF' : Qh (D ++ E) := fun x hx => by
          rcases List.mem_append.1 hx with h | h
          . exact hbD.out x h
          . exact hbz x (by rw [hz]; simp [h])
        have hbr : Qh rest := fun x hx => hbz x (by rw [hz]; simp [hx])
        obtain ⟨aq, capq, rfl, q1, q2, q3, q4⟩ := hrq
        have hrq : UF .u8 w0 (.slice aq rest.length capq) rest := ⟨aq, capq, rfl, q1, q2, q3, q4⟩
        replace hrq := Lib.hid hrq
        replace q3 := Lib.hid q3
        by_cases hr0 : 0 < rest.length
        . obtain ⟨y, oy, rfl, -⟩ := q3.out 0 hr0
          have hn := Nat.mod_lt (D ++ E).length (show 0 < 64 by decide)
          have hhl := Kv (D ++ E)
          have hrI : (0 : Int) < (rest.length : Int) := by omega
          replace hz := Lib.hid hz
          replace hzl := Lib.hid hzl
          replace hFl := Lib.hid hFl
          generalize hF : D ++ E = F at *
          have hbF := Lib.hid hbF'
          clear hbF'
          replace hF := Lib.hid hF
          generalize hnn : F.length % 64 = n at *
          replace hnn := Lib.hid hnn
          obtain ⟨c, hcd⟩ : ∃ c, c = if n + rest.length < 64 then rest.length else 64 - n := ⟨_, rfl⟩
          have hc0 : 0 < c /\ c <= rest.length /\ n + c <= 64 /\ (n + c < 64 -> c = rest.length) := by split at hcd <;> omega
          have hmin : min ((64 : Int) - (n : Int)) (rest.length : Int) = (c : Int) := by split at hcd <;> omega
          obtain ⟨hc1, hc2, hc3, hc4⟩ := hc0
          have hcI : (c : Int) <= (rest.length : Int) := by omega
          have hcI0 : (0 : Int) <= (c : Int) := by omega
          have hnw : ((rest.take c).map (Value.int .u8)).length = c * 1 := by simp [hc2]
          have hcw : ∀ j u, ((rest.take c).map (Value.int .u8))[j]? = some u -> wr.cell? ((⟨y, oy, none⟩ : Addr).add j) = some u := fun j u hj => by
            have hjc : j < c := by
              have := (List.getElem?_eq_some_iff.1 hj).1
              rw [hnw] at this
              omega
            obtain ⟨y', oy', e, hcy⟩ := q3.out j (by omega)
            cases e
            rw [Addr.add_lit, hB1.cell (World.block_lt_of_cell? w0 _ hcy), hcy, <- hj]
            simp [hjc, Qb, show j < rest.length by omega]
          have hone : ∀ u ∈ (rest.take c).map (Value.int .u8), u.oneCell' = true := by
            intro u hu
            obtain ⟨z, -, rfl⟩ := List.mem_map.1 hu
            rfl
          replace hnw := Lib.hid hnw
          replace hcw := Lib.hid hcw
          replace hone := Lib.hid hone
          replace hcd := Lib.hid hcd
          replace hc4 := Lib.hid hc4
          clear q4 hzn hDn hDl
          have hG : D ++ (E ++ rest.take c) = F ++ rest.take c := by rw [<- List.append_assoc, hF.out]
          have hzc : zs = (E ++ rest.take c) ++ rest.drop c := by rw [List.append_assoc, List.take_append_drop]; exact hz.out
          have hXl : (rest.take c).length = c := by simp [hc2]
          have hBB : B ≠ w9.heap.size := by omega
          have hgB2 : ∀ w2, wr.grownBy w2 (some w9.heap.size) -> w9.grownBy w2 (some B) := fun w2 hg2 => QbA hg1 hg2 (Nat.le_refl _)
          have hTt := hT.lt
          have hTsq : 1 ≠ B := by omega
          have hTcu : 5 ≠ B := by omega
          have hcut : UF .u8 w0 (.slice (if capq = c then some ⟨y, oy, none⟩ else some ⟨y, oy + c, none⟩) (rest.length - c) (capq - c)) (rest.drop c) := by
            by_cases e : capq = c
            . rw [if_pos e]; exact UF.cut hrq.out hc2 (some ⟨y, oy, none⟩) (.inl e.symm) (fun _ => ⟨_, rfl⟩)
            . rw [if_neg e]; exact UF.cut hrq.out hc2 (some ⟨y, oy + c, none⟩) (.inr rfl) (fun _ => ⟨_, rfl⟩)
          replace hG := Lib.hid hG
          replace hzc := Lib.hid hzc
          replace hXl := Lib.hid hXl
          replace hgB2 := Lib.hid hgB2
          replace hcut := Lib.hid hcut
          clear hz
          by_cases hful : n + c = 64
          . have hfI : ((n : Nat) : Int) + ((c : Nat) : Int) = 64 := by omega
            have hff := QbF st F (rest.take c) (by rw [hnn.out, hXl.out, hful])
            have hvl : (XX F ++ rest.take c).length = 64 := by rw [List.length_append, hhl, hXl.out, hful]
            have hGl : (F ++ rest.take c).length % 64 = 0 := by rw [List.length_append, hXl.out]; have := hnn.out; omega
            have hvb : Qh (XX F ++ rest.take c) := F0 (fun x hx => ?hb1) (fun x hx => hbr x (List.mem_of_mem_take hx))
            case hb1 => exact hbF.out x (List.mem_of_mem_drop hx)
            obtain ⟨hff1, hff2⟩ := hff
            replace hff1 := Lib.hid hff1
            replace hff2 := Lib.hid hff2
            replace hvb := Lib.hid hvb
            replace hGl := Lib.hid hGl
            replace hvl := Lib.hid hvl
            go_wp2_with (first
              | (with_reducible refine YF 41 ?_; refine wpList_append_fits _ rfl _ _ 23 rfl w9.heap.size 5 j0 1 Tryz.underlying23 hj hy1 w9.heap.size n 64 _ rfl hown1 ⟨y, oy, none⟩ c capq _ rfl hnw.out hcw.out hone.out hc3 ?_; intro w2 hown2 hg2; rw [hful, <- List.map_append] at hown2; have hr2 := hr1.but hg2 (by simpa using hBB); have hgg2 := hgB2.out _ hg2; have hT2 : Zl w2 := hT.below (hb0.grown hgg2 hs0 (fun k hk => by cases hk; exact hBn)); have hv2 := UF.of_own hown2; have HT := QaB w2 B _ hr2 hT2 hTsq hTcu _ _ hv2 hvb.out hvl.out)
              | (go_at_call 102; (with_reducible refine HT.mono ?_); rintro e w3 ⟨⟨v9, rfl⟩, hr3, hg3⟩; have hown3 := Qbf (hown2.kept hg3 (.inr (by simpa [Value.ownBlock] using fun e => hBB e.symm))); have hgg3 := YO hgg2 hg3))
            refine ⟨⟨E ++ rest.take c, rest.drop c, hzc.out, hcut.out, by rw [hG.out, hGl.out], ?_, ?_, hgg3⟩, by show rest.length - c < rest.length; omega⟩
            . rw [hG.out, hff1.out]; exact hr3
            . rw [hG.out, hff2.out, hGl.out]; exact hown3
          . have hneI : ¬ (((n : Nat) : Int) + ((c : Nat) : Int) = 64) := by omega
            have hff := Qc3 st F (rest.take c) (by rw [hnn.out, hXl.out]; omega)
            have hGl : (F ++ rest.take c).length % 64 = n + c := by rw [List.length_append, hXl.out]; have := hnn.out; omega
            obtain ⟨hff1, hff2⟩ := hff
            replace hff1 := Lib.hid hff1
            replace hff2 := Lib.hid hff2
            replace hGl := Lib.hid hGl
            go_wp2_with (first
              | (with_reducible refine YF 41 ?_; refine wpList_append_fits _ rfl _ _ 23 rfl w9.heap.size 5 j0 1 Tryz.underlying23 hj hy1 w9.heap.size n 64 _ rfl hown1 ⟨y, oy, none⟩ c capq _ rfl hnw.out hcw.out hone.out hc3 ?_; intro w2 hown2 hg2; rw [<- List.map_append] at hown2; have hr2 := hr1.but hg2 (by simpa using hBB); have hgg2 := hgB2.out _ hg2))
            refine ⟨⟨E ++ rest.take c, rest.drop c, hzc.out, hcut.out, by rw [hG.out, hGl.out], ?_, ?_, hgg2⟩, by show rest.length - c < rest.length; omega⟩
            . rw [hG.out, hff1.out]; exact hr2
            . rw [hG.out, hff2.out, hGl.out]; exact hown2
        . have hre : rest = [] := List.length_eq_zero_iff.1 (by omega)
          subst hre
          rw [List.append_nil] at hz
          subst hz
          clear hrq q3
          go_wp2
          have hlt2 := hltH.out
          refine ⟨⟨i + 1, by omega, by go_num, ?_, by rw [hct.out], by rw [hct.out]; exact hr1, by rw [hct.out]; exact hown1, hg1⟩, by simp only [intOf]; omega⟩
          rw [hct.out, List.length_append, Int.natCast_add]
    . obtain rfl : i = ps.length := by omega
      rw [List.take_length] at hr1 hown1
      rw [List.take_length]
      generalize hD : Yz ps = D at *
      have hhl := Kv D
      have hbD : Qh (XX D) := fun x hx => by
        have := JX fun p hp => (hrd.out p hp).2
        rw [hD] at this
        exact this x (List.mem_of_mem_drop hx)
      have hT1 : Zl wr := hT.below hB1
      have hTt := hT.lt
      have hmod : D.length % 64 < 64 := Nat.mod_lt _ (by decide)
      have hcl : ∀ q, q < D.length % 64 -> wr.cell? ⟨w9.heap.size, q, none⟩ = some (.int .u8 (Qb (XX D) q)) := fun q hq => by
        have h := UF.of_own hown1
        obtain ⟨a', cap', e', h1, h2, h3, -⟩ := h
        obtain ⟨x', o', e2, hc2⟩ := h3 q (by rw [hhl]; exact hq)
        simp only [Value.slice.injEq] at e'
        obtain ⟨ea, -, -⟩ := e'
        rw [<- ea] at e2
        cases e2
        rwa [Nat.zero_add] at hc2
      have HL := Qhx wr B _ hr1 hT1 (by omega) (by omega) w9.heap.size (XX D) (D.length % 64) hcl hhl hmod hbD (D.length : Int) (by omega) (by omega)
      clear hcl hown1
      go_wp2_with (first
        | (go_at_call 103; (with_reducible refine HL.mono ?_); rintro e w3 ⟨⟨v9, rfl⟩, hr3, hg3⟩))
      refine bodyPost_end (results_none rfl _ _ _) rfl ?_
      rw [hD]
      exact ⟨⟨_, rfl⟩, hr3, YO hg1 hg3⟩
theorem Qap {P : Program} {ops : Array Oper} {Q : Exit -> Act -> World -> Prop} {l : List Oper} {a : Act} {w : World} (h : ∀ W, W = w -> wpList P ops Q l a W) : wpList P ops Q l a w := h w rfl
/-- The sum of bytes. -/
def Xw (D : List Int) : List Int := Xi (QT (U7 Q2 D) (Vc (Vw (XW D) (D.length % 128)) (D.length : Int) 8) (QL (D.length % 128) / 128))
theorem Qan : (Tryz.prog.info? 26).bind (·.zero) = some (.agg (Array.replicate 64 (Value.int .u8 0))) := by kernel_rfl
theorem FJ : (Tryz.prog.info? 26).map (·.size) = some 64 := by kernel_rfl
theorem Qdw : Tryz.prog.underlying 26 = some (.array 64 5) := by kernel_rfl
theorem QeF : ∀ x ∈ List.replicate 8 (0 : Int), Xh x := fun x hx => by
  obtain ⟨-, rfl⟩ := List.mem_replicate.1 hx
  unfold Xh; omega
theorem Qgv {w : World} {B : Nat} {cur : Array Value} {t : TypeId} (h : w.heap[B]? = some (.cells cur t (0, 0))) : XL (w.setRow B #[.int .i64 64, .int .i64 80, .int .u64 0, .int .u64 0, .int .u64 0, .int .u64 0, .int .u64 0, .int .u64 0, .int .u64 0, .int .u64 0, .func (.func 44) #[] #[], .func (.func 46) #[] #[], .func (.func 47) #[] #[], .func (.func 48) #[] #[]]) B (List.replicate 8 0) :=
  ⟨rfl, QeF, t, setRow_heap _ _ _ _ _ _ h⟩
set_option maxHeartbeats 4000000 in
theorem QiF (w : World) (hT : Zl w) (v : Value) (ps : List (Value × List Int)) (hp : RdP w v ps) (hlen : (Yz ps).length < 1099511627776) :
    Calls Tryz.prog 19 #[v] w fun e w' => e = .returned (XN .u8 (Xw (Yz ps))) /\ Below w.heap.size w w' := by
  go_enter Tryz.func19, Tryz.ntmps19
  have hTt := hT.lt
  go_wp2_with (first
    | (with_reducible refine YF 2 ?_; refine Xk rfl 26 rfl .u8 64 Qan ?_; intro w1 A1 s1 b1)
    | (with_reducible refine Hg (o := ⟨_, .store 77 _ _, _, _, _, _⟩) ?_; refine wpList_store_row rfl 77 _ _ rfl w1.heap.size _ rfl rfl 77 _ (heap_alloc_new _ _) (by kernel_rfl) (by simp) (by simp [Value.oneCell']) ?_; refine Qap fun w3 hw3 => ?_; have hr3 : XL w3 w1.heap.size (List.replicate 8 0) := (by rw [hw3]; exact Qgv (heap_alloc_new _ _)); have b3 : Below w1.heap.size w1 w3 := (by rw [hw3]; exact Zp ((Below.refl _ _).alloc (Nat.le_refl _) _) (Nat.le_refl _) _); clear hw3; have bb3 := Qk b1 b3; have hT3 := hT.below bb3; replace A1 := A1.below b3; have s3 := hr3.lt)
    | (go_at_call 49; (with_reducible refine (QfE w3 w1.heap.size _ hr3 hT3 (by omega) (by omega)).mono ?_); rintro e w4 ⟨⟨v4, rfl⟩, hr4, hg4⟩; have bb4 : Below w.heap.size w w4 := bb3.grown hg4 bb3.size (fun k hk => by cases hk; exact b1.size); replace A1 := Ua A1 hg4 (by simp; omega))
    | (go_at_call 50; (with_reducible refine (Qj5 w w4 bb4 w1.heap.size _ hr4 b1.size hT v ps hp hlen).mono ?_); rintro e w5 ⟨⟨v5, rfl⟩, hr5, hg5⟩; have bb5 : Below w.heap.size w w5 := bb4.grown hg5 bb4.size (fun k hk => by cases hk; exact b1.size); replace A1 := Ua A1 hg5 (by simp; omega))
    | (with_reducible refine YF 4 ?_; refine Xk rfl 26 rfl .u8 64 Qan ?_; intro w6 A6 s6 b6; have bb6 := Qk bb5 b6; replace A1 := A1.below b6; have hr6 := hr5.below b6; have hz6 := A1.lt; have hz7 := hr5.lt; have hz8 := b1.size; have hz9 := bb5.size)
    | (go_at_call 51; (with_reducible refine (Qf4 w6 w1.heap.size w5.heap.size _ _ hr6 A6 (by simp) (by omega)).mono ?_); rintro e w7 ⟨⟨v7, rfl⟩, A7, hg7⟩; have bb7 : Below w.heap.size w w7 := bb6.grown hg7 bb6.size (fun k hk => by cases hk; exact bb5.size); replace A1 := Ua A1 hg7 (by simp; omega))
    | (with_reducible refine YF 11 ?_; refine Y7 rfl 26 _ rfl 64 5 Qdw FJ w5.heap.size rfl .u8 _ A7 (by simp [Xi]) ?_)
    | (with_reducible refine Hg (o := ⟨_, .store 26 _ _, _, _, _, _⟩) ?_; refine Zm rfl 26 _ _ rfl 64 FJ w.heap.size rfl .u8 _ _ rfl A1 (by simp) (by simp [Xi]) ?_; intro A9))
  refine bodyPost_ret (YW rfl _ 64 5 Qdw FJ w.heap.size rfl .u8 _ A9 (by simp [Xi])) rfl ?_
  exact ⟨rfl, Zp bb7 (Nat.le_refl _) _⟩
/-- The sum of bytes. -/
def Yh (D : List Int) : List Int := Xl (QU (U8 Q3 D) (Vc (Vx (XX D) (D.length % 64)) (D.length : Int) 8) (QM (D.length % 64) / 64))
theorem Qao : (Tryz.prog.info? 22).bind (·.zero) = some (.agg (Array.replicate 32 (Value.int .u8 0))) := by kernel_rfl
theorem FK : (Tryz.prog.info? 22).map (·.size) = some 32 := by kernel_rfl
theorem Qdx : Tryz.prog.underlying 22 = some (.array 32 5) := by kernel_rfl
theorem QeG : ∀ x ∈ List.replicate 8 (0 : Int), XC x := fun x hx => by
  obtain ⟨-, rfl⟩ := List.mem_replicate.1 hx
  unfold XC; omega
theorem Qgw {w : World} {B : Nat} {cur : Array Value} {t : TypeId} (h : w.heap[B]? = some (.cells cur t (0, 0))) : XM (w.setRow B #[.int .i64 32, .int .i64 64, .int .u32 0, .int .u32 0, .int .u32 0, .int .u32 0, .int .u32 0, .int .u32 0, .int .u32 0, .int .u32 0, .func (.func 58) #[] #[], .func (.func 60) #[] #[], .func (.func 61) #[] #[], .func (.func 62) #[] #[]]) B (List.replicate 8 0) :=
  ⟨rfl, QeG, t, setRow_heap _ _ _ _ _ _ h⟩
set_option maxHeartbeats 4000000 in
theorem QiG (w : World) (hT : Zl w) (v : Value) (ps : List (Value × List Int)) (hp : RdP w v ps) (hlen : (Yz ps).length < 1099511627776) :
    Calls Tryz.prog 24 #[v] w fun e w' => e = .returned (XN .u8 (Yh (Yz ps))) /\ Below w.heap.size w w' := by
  go_enter Tryz.func24, Tryz.ntmps24
  have hTt := hT.lt
  go_wp2_with (first
    | (with_reducible refine YF 2 ?_; refine Xk rfl 22 rfl .u8 32 Qao ?_; intro w1 A1 s1 b1)
    | (with_reducible refine Hg (o := ⟨_, .store 90 _ _, _, _, _, _⟩) ?_; refine wpList_store_row rfl 90 _ _ rfl w1.heap.size _ rfl rfl 90 _ (heap_alloc_new _ _) (by kernel_rfl) (by simp) (by simp [Value.oneCell']) ?_; refine Qap fun w3 hw3 => ?_; have hr3 : XM w3 w1.heap.size (List.replicate 8 0) := (by rw [hw3]; exact Qgw (heap_alloc_new _ _)); have b3 : Below w1.heap.size w1 w3 := (by rw [hw3]; exact Zp ((Below.refl _ _).alloc (Nat.le_refl _) _) (Nat.le_refl _) _); clear hw3; have bb3 := Qk b1 b3; have hT3 := hT.below bb3; replace A1 := A1.below b3; have s3 := hr3.lt)
    | (go_at_call 63; (with_reducible refine (QfF w3 w1.heap.size _ hr3 hT3 (by omega) (by omega)).mono ?_); rintro e w4 ⟨⟨v4, rfl⟩, hr4, hg4⟩; have bb4 : Below w.heap.size w w4 := bb3.grown hg4 bb3.size (fun k hk => by cases hk; exact b1.size); replace A1 := Ua A1 hg4 (by simp; omega))
    | (go_at_call 64; (with_reducible refine (Qj6 w w4 bb4 w1.heap.size _ hr4 b1.size hT v ps hp hlen).mono ?_); rintro e w5 ⟨⟨v5, rfl⟩, hr5, hg5⟩; have bb5 : Below w.heap.size w w5 := bb4.grown hg5 bb4.size (fun k hk => by cases hk; exact b1.size); replace A1 := Ua A1 hg5 (by simp; omega))
    | (with_reducible refine YF 4 ?_; refine Xk rfl 22 rfl .u8 32 Qao ?_; intro w6 A6 s6 b6; have bb6 := Qk bb5 b6; replace A1 := A1.below b6; have hr6 := hr5.below b6; have hz6 := A1.lt; have hz7 := hr5.lt; have hz8 := b1.size; have hz9 := bb5.size)
    | (go_at_call 65; (with_reducible refine (Qf5 w6 w1.heap.size w5.heap.size _ _ hr6 A6 (by simp) (by omega)).mono ?_); rintro e w7 ⟨⟨v7, rfl⟩, A7, hg7⟩; have bb7 : Below w.heap.size w w7 := bb6.grown hg7 bb6.size (fun k hk => by cases hk; exact bb5.size); replace A1 := Ua A1 hg7 (by simp; omega))
    | (with_reducible refine YF 11 ?_; refine Y7 rfl 22 _ rfl 32 5 Qdx FK w5.heap.size rfl .u8 _ A7 (by simp [Xl]) ?_)
    | (with_reducible refine Hg (o := ⟨_, .store 22 _ _, _, _, _, _⟩) ?_; refine Zm rfl 22 _ _ rfl 32 FK w.heap.size rfl .u8 _ _ rfl A1 (by simp) (by simp [Xl]) ?_; intro A9))
  refine bodyPost_ret (YW rfl _ 32 5 Qdx FK w.heap.size rfl .u8 _ A9 (by simp [Xl])) rfl ?_
  exact ⟨rfl, Zp bb7 (Nat.le_refl _) _⟩
/-- The program's tables, sha's too. -/
def gS : List QN := gT ++ [fG 1 (Xc.map (Value.int .u64)), fG 5 (Q7.map (Value.int .u64))]
theorem DL (L : List Nat) (w : World) (h : Hs gS L w) : Hs gT L w := h.pre
theorem QhE {L : List Nat} {w : World} (h : Hs gS L w) : Zl w := by
  have h1 := (h.get (i := 3) rfl : (fG 1 (Xc.map (Value.int .u64))).h L w)
  have h2 := (h.get (i := 4) rfl : (fG 5 (Q7.map (Value.int .u64))).h L w)
  have hl1 : Xc.length = 8 := by decide
  have hl2 : Q7.length = 80 := by decide
  refine ⟨fun k hk => ?_, fun k hk => ?_⟩
  . have := h1.2.2 k (.int .u64 (Qb Xc k)) (by rw [List.getElem?_map]; unfold Qb; rw [List.getElem?_eq_getElem (by omega)]; rfl)
    rwa [Nat.zero_add] at this
  . have := h2.2.2 k (.int .u64 (Qb Q7 k)) (by rw [List.getElem?_map]; unfold Qb; rw [List.getElem?_eq_getElem (by omega)]; rfl)
    rwa [Nat.zero_add] at this
theorem PV.up {P : Program} {G G' : List QN} {F : FuncId} {args : List SV} {v : SV} (h : PV P G F args v) (hg : ∀ L w, Hs G' L w -> Hs G L w) : PV P G' F args v := ⟨h.fn, h.wa, h.wv, fun w L hL hG => h.h w L hL (hg L w hG)⟩
/-- A slice of numbers, read. -/
theorem Dm {w : World} {B o n c : Nat} {zs : List Int} {K : IntKind} (hr : w.rangeAt B o (zs.map (Value.int K))) (hl : zs.length = n) (hn : n <= c) (hc : c <= maxLen) : UF K w (.slice (some ⟨B, o, none⟩) n c) zs := by
  refine ⟨_, c, by rw [hl], by omega, hc, fun k hk => ⟨B, o, rfl, ?_⟩, fun h => by cases h⟩
  exact hr k _ (by rw [List.getElem?_map]; unfold Qb; rw [List.getElem?_eq_getElem hk]; rfl)
theorem Qkt (K : IntKind) : ∀ zs : List Int, (zs.map fun z => [Value.int K z]).flatten = zs.map (Value.int K)
  | [] => rfl
  | z :: l => by simp only [List.map_cons, List.flatten_cons, List.singleton_append, Qkt K l]
theorem Qi3 {L : List Nat} {w : World} {v : Value} {zs : List Int} {K : IntKind} (h : Zh 1 L w v (zs.map fun z => [Value.int K z])) (hn : ∀ a n c, v = .slice a n c -> a = none -> c = 0) : UF K w v zs := by
  obtain ⟨_, _, a, cap, rfl, h2, h3, h4, h5⟩ := h
  rw [List.length_map] at h2 ⊢
  refine ⟨a, cap, rfl, h2, h3, fun k hk => ?_, fun e => hn _ _ _ rfl e⟩
  obtain ⟨X, o, rfl, _, hc⟩ := h5 (fun e => by rw [List.map_eq_nil_iff] at e; subst e; simp at hk)
  refine ⟨X, o, rfl, hc k _ ?_⟩
  rw [Qkt, List.getElem?_map]; unfold Qb; rw [List.getElem?_eq_getElem hk]; rfl
/-- A slice of slices. -/
theorem Dl {w : World} {B : Nat} {ps : List (Value × List Int)} (hb : Q8 w B (ps.map (·.1))) (hm : ps.length <= maxLen) (hp : ∀ p ∈ ps, UF .u8 w p.1 p.2 /\ Qh p.2) : RdP w (.slice (some ⟨B, 0, none⟩) ps.length ps.length) ps := by
  refine ⟨_, _, rfl, ⟨Nat.le_refl _, hm⟩, fun k hk => ⟨B, 0, rfl, ?_⟩, hp⟩
  have := hb.range k (ps[k]'hk).1 (by rw [List.getElem?_map, List.getElem?_eq_getElem hk]; rfl)
  rwa [Nat.zero_add] at this ⊢
theorem Qci {w : World} {L : List Nat} (hG : Hs gS L w) {v : Value} {ps : List (Value × List Int)} (hp : RdP w v ps) (hlen : (Yz ps).length < 1099511627776) (hs : (Xw (Yz ps)).length = 64) : CX Tryz.prog 19 [v] w [] (fun _ : Unit => .a .u8 (Xw (Yz ps)) 64) (fun _ => []) (fun _ => True) := by
  refine Calls.mono (QiF w (QhE hG) v ps hp hlen) fun e w' h => ?_
  exact ⟨_, h.1, ⟨(), by simp only [SV.den]; rfl, trivial, trivial⟩, h.2⟩
theorem XS (D : List Int) : (Xw D).length = 64 := by unfold Xw Xi; simp
theorem Yg (D : List Int) : Qh (Xw D) := by
  intro x hx
  unfold Xw Xi at hx
  simp only [List.mem_map] at hx
  obtain ⟨i, _, rfl⟩ := hx
  first | omega | (split <;> omega) | (constructor <;> omega)
/-- A slice of bytes that is read; nil has no room. -/
def fB (v : Value) (zs : List Int) : QN := ⟨fun L w => Zh 1 L w v (zs.map fun z => [Value.int .u8 z]) /\ ∀ a n c, v = .slice a n c -> a = none -> c = 0, fun h hs hl => ⟨h.1.stp hs hl, h.2⟩⟩
theorem fB.rd {L : List Nat} {w : World} {v : Value} {zs : List Int} (h : (fB v zs).h L w) : UF .u8 w v zs := Qi3 h.1 h.2
theorem QkR {z : List Int} (hz : Qh z) (hl : z.length = 32) (k j : Nat) : PR Tryz.prog gS 19 [.y k 0 1 1] [(k, [.y j 0 32 32]), (j, [.a .u8 z 32])] (.a .u8 (Xw z) 64) := PR.mk' Tryz.func19 rfl rfl rfl fun ρ w hG hm => by
  obtain ⟨b1, -⟩ := hm _ (.head _)
  obtain ⟨b2, -⟩ := hm _ (.tail _ (.head _))
  simp only [Qp, SV.cs, SV.den, List.append_nil] at b1 b2
  have hp := Dl (w := w) (B := ρ.b k) (ps := [(.slice (some ⟨ρ.b j, 0, none⟩) 32 32, z)]) b1 (by simp [maxLen]) (fun p hp => by
    simp only [List.mem_singleton] at hp
    subst hp
    exact ⟨Dm b2.range hl (by omega) (by simp [maxLen]), hz⟩)
  have e : Yz [(Value.slice (some ⟨ρ.b j, 0, none⟩) 32 32, z)] = z := by simp [Yz]
  have := Qci hG hp (by rw [e, hl]; omega) (XS _)
  rw [e] at this
  simp only [QO, SV.den]
  exact this
theorem QkQ {z m : List Int} {a : Option Addr} {n c : Nat} (hz : Qh z) (hl : z.length = 32) (hm : Qh m) (hml : m.length < 1000000) (k j : Nat) : PR Tryz.prog (gS ++ [fB (.slice a n c) m]) 19 [.y k 0 2 2] [(k, [.y j 0 32 32, .o a n c]), (j, [.a .u8 z 32])] (.a .u8 (Xw (z ++ m)) 64) := PR.mk' Tryz.func19 rfl rfl rfl fun ρ w hG hmm => by
  obtain ⟨b1, -⟩ := hmm _ (.head _)
  obtain ⟨b2, -⟩ := hmm _ (.tail _ (.head _))
  simp only [Qp, SV.cs, SV.den, List.append_nil, List.cons_append, List.nil_append] at b1 b2
  have hr := fB.rd (hG.get (i := 5) rfl)
  have hp := Dl (w := w) (B := ρ.b k) (ps := [(.slice (some ⟨ρ.b j, 0, none⟩) 32 32, z), (.slice a n c, m)]) b1 (by simp [maxLen]) (fun p hp => by
    simp only [List.mem_cons, List.not_mem_nil, or_false] at hp
    rcases hp with rfl | rfl
    . exact ⟨Dm b2.range hl (by omega) (by simp [maxLen]), hz⟩
    . exact ⟨hr, hm⟩)
  have e : Yz [(Value.slice (some ⟨ρ.b j, 0, none⟩) 32 32, z), (.slice a n c, m)] = z ++ m := by simp [Yz]
  have := Qci hG.pre hp (by rw [e, List.length_append, hl]; omega) (XS _)
  rw [e] at this
  simp only [QO, SV.den]
  exact this
theorem QkP {z y m : List Int} {a : Option Addr} {n c : Nat} (hz : Qh z) (hl : z.length = 32) (hy : Qh y) (hyl : y.length = 32) (hm : Qh m) (hml : m.length < 1000000) (k j i : Nat) : PR Tryz.prog (gS ++ [fB (.slice a n c) m]) 19 [.y k 0 3 3] [(k, [.y j 0 32 32, .y i 0 32 32, .o a n c]), (j, [.a .u8 z 32]), (i, [.a .u8 y 32])] (.a .u8 (Xw (z ++ (y ++ m))) 64) := PR.mk' Tryz.func19 rfl rfl rfl fun ρ w hG hmm => by
  obtain ⟨b1, -⟩ := hmm _ (.head _)
  obtain ⟨b2, -⟩ := hmm _ (.tail _ (.head _))
  obtain ⟨b3, -⟩ := hmm _ (.tail _ (.tail _ (.head _)))
  simp only [Qp, SV.cs, SV.den, List.append_nil, List.cons_append, List.nil_append] at b1 b2 b3
  have hr := fB.rd (hG.get (i := 5) rfl)
  have hp := Dl (w := w) (B := ρ.b k) (ps := [(.slice (some ⟨ρ.b j, 0, none⟩) 32 32, z), (.slice (some ⟨ρ.b i, 0, none⟩) 32 32, y), (.slice a n c, m)]) b1 (by simp [maxLen]) (fun p hp => by
    simp only [List.mem_cons, List.not_mem_nil, or_false] at hp
    rcases hp with rfl | rfl | rfl
    . exact ⟨Dm b2.range hl (by omega) (by simp [maxLen]), hz⟩
    . exact ⟨Dm b3.range hyl (by omega) (by simp [maxLen]), hy⟩
    . exact ⟨hr, hm⟩)
  have e : Yz [(Value.slice (some ⟨ρ.b j, 0, none⟩) 32 32, z), (.slice (some ⟨ρ.b i, 0, none⟩) 32 32, y), (.slice a n c, m)] = z ++ (y ++ m) := by simp [Yz]
  have := Qci hG.pre hp (by rw [e, List.length_append, List.length_append, hl, hyl]; omega) (XS _)
  rw [e] at this
  simp only [QO, SV.den]
  exact this
theorem Qh.take {l : List Int} (h : Qh l) (n : Nat) : Qh (l.take n) := fun x hx => h x (List.mem_of_mem_take hx)
/-- A seed's secret, and its prefix. -/
def Va (z : List Int) : List Int := Ek ((Xw z).take 32)
def UR (z : List Int) : List Int := (Xw z).drop 32
theorem Zi (z : List Int) : (Va z).length = 32 := FZ (by rw [List.length_take, XS]; rfl)
theorem Z9 (z : List Int) : Qh (Va z) := Qde ((Yg z).take 32)
theorem KR (z : List Int) : (UR z).length = 32 := by unfold UR; rw [List.length_drop, XS]
theorem Fi (z : List Int) : Qh (UR z) := (Yg z).drop 32
theorem Qbz {z : List Int} (hz : Qh z) (hl : z.length = 32) : PV Tryz.prog gS 14 [.a .u8 z 32] (.t [.a .u8 (Va z) 32, .a .u8 (UR z) 32]) := by
  have h1 := QkR hz hl 3 0
  have hsl := XS z
  have htl : ((Xw z).take 32).length = 32 := by rw [List.length_take, hsl]; rfl
  have h2 := (QjQ htl).up DL
  have hcl := Zi z
  have hpl := KR z
  unfold Va UR at *
  generalize Xw z = h at *
  generalize Ek (h.take 32) = s at *
  refine PV.mk' Tryz.func14 rfl rfl rfl rfl fun w L hL hG => ?_
  refine S.enter Qw [.a .u8 z 32] gS Tryz.func14 rfl rfl rfl (fun _ => rfl) hL hG ?_
  refine S.go false rfl (by repeat' (first | exact True.intro | refine And.intro ?_ ?_ | assumption | exact rfl | decide)) ?_
  refine S.cr [3, 0] rfl rfl rfl rfl rfl rfl rfl h1 ?_
  refine S.go false rfl (by repeat' (first | exact True.intro | refine And.intro ?_ ?_ | assumption | omega | (dsimp only; omega) | (simp only [Nat.add_eq, Nat.mul_eq, Nat.sub_eq, SV.wd]; omega) | exact rfl)) ?_
  refine S.drp false [(3, .a .u8 s 32)] rfl rfl rfl ?_ (by repeat' (first | exact True.intro | refine And.intro ?_ ?_ | assumption | exact rfl | decide))
  refine S.g false rfl ?_
  exact S.rett rfl rfl rfl rfl rfl
theorem Qa1 {z : List Int} (hz : Qh z) (hl : z.length = 32) : PV Tryz.prog gS 6 [.a .u8 z 32] (.a .u8 (Zs (QQ (kB (Va z)) bP)) 32) := by
  have h1 := Qbz hz hl
  have h2 := (Qdl (Z9 z) (Zi z)).up DL
  have hel := Q1 (QQ (kB (Va z)) bP)
  have hcl := Zi z
  have hpl := KR z
  generalize Zs (QQ (kB (Va z)) bP) = E at *
  generalize Va z = s at *
  generalize UR z = p at *
  refine PV.mk' Tryz.func6 rfl rfl rfl rfl fun w L hL hG => ?_
  refine S.enter Qw [.a .u8 z 32] gS Tryz.func6 rfl rfl rfl (fun _ => rfl) hL hG ?_
  refine S.go false rfl (by repeat' (first | exact True.intro | refine And.intro ?_ ?_ | assumption | omega | (dsimp only; omega) | (simp only [Nat.add_eq, Nat.mul_eq, Nat.sub_eq, SV.wd]; omega) | exact rfl)) ?_
  refine S.cv rfl rfl rfl rfl rfl rfl h1 ?_
  refine S.go false rfl (by repeat' (first | exact True.intro | refine And.intro ?_ ?_ | assumption | omega | (dsimp only; omega) | (simp only [Nat.add_eq, Nat.mul_eq, Nat.sub_eq, SV.wd]; omega) | exact rfl)) ?_
  refine S.cv rfl rfl rfl rfl rfl rfl h2 ?_
  refine S.go false rfl (by repeat' (first | exact True.intro | refine And.intro ?_ ?_ | assumption | omega | (dsimp only; omega) | (simp only [Nat.add_eq, Nat.mul_eq, Nat.sub_eq, SV.wd]; omega) | exact rfl)) ?_
  exact S.retv rfl rfl rfl rfl rfl
/-- What binds a signature to R, the key and the message. -/
def chB (r key m : List Int) : List Int := Xf (Qq (Xw (r ++ (key ++ m))) 64 % QA)
theorem U0 (r key m : List Int) : (chB r key m).length = 32 := QP _
theorem JW (r key m : List Int) : Qh (chB r key m) := UU _
section
variable {a0 : Option Addr} {n0 c0 : Nat} {m : List Int} (hm : Qh m) (hml : m.length < 1000000)
include hm hml
theorem Hf {r key : List Int} (hr : Qh r) (hrl : r.length = 32) (hk : Qh key) (hkl : key.length = 32) : PV Tryz.prog (gS ++ [fB (.slice a0 n0 c0) m]) 21 [.a .u8 r 32, .a .u8 key 32, .o a0 n0 c0] (.a .u8 (chB r key m) 32) := by
  have h1 := QkP (a := a0) (n := n0) (c := c0) hr hrl hk hkl hm hml 6 0 1
  have hsl := XS (r ++ (key ++ m))
  have h2 := (QaV (Yg (r ++ (key ++ m))) hsl).up (G' := gS ++ [fB (.slice a0 n0 c0) m]) (fun L w h => DL L w h.pre)
  have hcl := U0 r key m
  unfold chB at *
  generalize Xw (r ++ (key ++ m)) = D at *
  generalize Xf (Qq D 64 % QA) = o at *
  refine PV.mk' Tryz.func21 rfl rfl rfl rfl fun w L hL hG => ?_
  refine S.enter Qw [.a .u8 r 32, .a .u8 key 32, .o a0 n0 c0] (gS ++ [fB (.slice a0 n0 c0) m]) Tryz.func21 rfl rfl rfl (fun _ => rfl) hL hG ?_
  refine S.go false rfl (by repeat' (first | exact True.intro | refine And.intro ?_ ?_ | assumption | omega | (dsimp only; omega) | (simp only [Nat.add_eq, Nat.mul_eq, Nat.sub_eq, SV.wd]; omega) | exact rfl)) ?_
  refine S.drq false [(4, .a .u8 D 64), (5, .a .u8 o 32)] [(4, [6, 0, 1])] rfl rfl rfl ?_ (by repeat' (first | exact True.intro | refine And.intro ?_ ?_ | assumption | exact rfl | decide))
  refine S.g false rfl ?_
  exact S.retv rfl rfl rfl rfl rfl
/-- What is drawn of the prefix and the message, and the signature's second half. -/
def KX (z m : List Int) : List Int := Xf (Qq (Xw (UR z ++ m)) 64 % QA)
omit hm hml in
theorem Ux (z m : List Int) : (KX z m).length = 32 := QP _
omit hm hml in
theorem VA (z m : List Int) : Qh (KX z m) := UU _
def Zr (z : List Int) : List Int := Zs (QQ (kB (Va z)) bP)
def Jk (z m : List Int) : List Int := Zs (QQ (kB (KX z m)) bP)
def sB (z m : List Int) : List Int := Xf ((Qq (KX z m) 32 + Qq (chB (Jk z m) (Zr z) m) 32 * Qq (Va z) 32) % QA)
omit hm hml in
theorem Di (z m : List Int) : (sB z m).length = 32 := QP _
omit hm hml in
theorem QaQ (z m : List Int) : Qh (sB z m) := UU _
theorem Qgh {z : List Int} (hz : Qh z) (hl : z.length = 32) : PV Tryz.prog (gS ++ [fB (.slice a0 n0 c0) m]) 8 [.a .u8 z 32, .o a0 n0 c0] (.a .u8 (Jk z m ++ sB z m) 64) := by
  have gT' : ∀ L w, Hs (gS ++ [fB (.slice a0 n0 c0) m]) L w -> Hs gT L w := fun L w h => DL L w h.pre
  have h1 := (Qbz hz hl).up (G' := gS ++ [fB (.slice a0 n0 c0) m]) (fun L w h => h.pre)
  have h2 := (Qdl (Z9 z) (Zi z)).up gT'
  have h3 := QkQ (a := a0) (n := n0) (c := c0) (Fi z) (KR z) hm hml 5 3
  have hsl := XS (UR z ++ m)
  have h4 := (QaV (Yg (UR z ++ m)) hsl).up gT'
  have h5 := (Qdl (VA z m) (Ux z m)).up gT'
  have h6 := Hf (a0 := a0) (n0 := n0) (c0 := c0) hm hml (Ye (QQ (kB (KX z m)) bP)) (Q1 _) (Ye (QQ (kB (Va z)) bP)) (Q1 _)
  have h7 := (Qhd (JW (Jk z m) (Zr z) m) (Z9 z) (VA z m) (U0 _ _ _) (Zi z) (Ux z m)).up gT'
  have q1 := Zi z; have q2 := KR z; have q3 := Ux z m; have q4 := Di z m; have q5 : (Zr z).length = 32 := Q1 _; have q6 : (Jk z m).length = 32 := Q1 _; have q7 := U0 (Jk z m) (Zr z) m
  change PV _ _ _ _ (.a .u8 (sB z m) 32) at h7
  change PV _ _ _ _ (.a .u8 (Zr z) 32) at h2
  change PV _ _ _ _ (.a .u8 (Jk z m) 32) at h5
  change PV _ _ _ _ (.a .u8 (KX z m) 32) at h4
  change PV _ _ _ [.a .u8 (Jk z m) 32, .a .u8 (Zr z) 32, .o a0 n0 c0] _ at h6
  change PV _ _ _ _ (.a .u8 (chB (Jk z m) (Zr z) m) 32) at h6
  generalize sB z m = S2 at *
  generalize chB (Jk z m) (Zr z) m = C at *
  generalize Jk z m = R at *
  generalize Zr z = E at *
  generalize KX z m = O at *
  generalize Xw (UR z ++ m) = D at *
  generalize Va z = s at *
  generalize UR z = p at *
  refine PV.mk' Tryz.func8 rfl rfl rfl rfl fun w L hL hG => ?_
  refine S.enter Qw [.a .u8 z 32, .o a0 n0 c0] (gS ++ [fB (.slice a0 n0 c0) m]) Tryz.func8 rfl rfl rfl (fun _ => rfl) hL hG ?_
  refine S.go false rfl (by repeat' (first | exact True.intro | refine And.intro ?_ ?_ | assumption | omega | (dsimp only; omega) | (simp only [Nat.add_eq, Nat.mul_eq, Nat.sub_eq, SV.wd]; omega) | exact rfl)) ?_
  refine S.cv rfl rfl rfl rfl rfl rfl h1 ?_
  refine S.go false rfl (by repeat' (first | exact True.intro | refine And.intro ?_ ?_ | assumption | omega | (dsimp only; omega) | (simp only [Nat.add_eq, Nat.mul_eq, Nat.sub_eq, SV.wd]; omega) | exact rfl)) ?_
  refine S.cv rfl rfl rfl rfl rfl rfl h2 ?_
  refine S.go false rfl (by repeat' (first | exact True.intro | refine And.intro ?_ ?_ | assumption | exact rfl | decide)) ?_
  refine S.cr [5, 3] rfl rfl rfl rfl rfl rfl rfl h3 ?_
  refine S.g false rfl ?_
  refine S.cv rfl rfl rfl rfl rfl rfl h4 ?_
  refine S.go false rfl (by repeat' (first | exact True.intro | refine And.intro ?_ ?_ | assumption | omega | (dsimp only; omega) | (simp only [Nat.add_eq, Nat.mul_eq, Nat.sub_eq, SV.wd]; omega) | exact rfl)) ?_
  refine S.cv rfl rfl rfl rfl rfl rfl h5 ?_
  refine S.go false rfl (by repeat' (first | exact True.intro | refine And.intro ?_ ?_ | assumption | omega | (dsimp only; omega) | (simp only [Nat.add_eq, Nat.mul_eq, Nat.sub_eq, SV.wd]; omega) | exact rfl)) ?_
  refine S.drp false [(3, .a .u8 C 32), (6, .a .u8 S2 32)] rfl rfl rfl ?_ (by repeat' (first | exact True.intro | refine And.intro ?_ ?_ | assumption | omega | (dsimp only; omega) | (simp only [Nat.add_eq, Nat.mul_eq, Nat.sub_eq, SV.wd]; omega) | exact rfl))
  refine S.g false rfl ?_
  refine S.dr0 false rfl rfl rfl ?_ (by repeat' (first | exact True.intro | refine And.intro ?_ ?_ | exact rfl | decide))
  refine S.g false rfl ?_
  refine S.dr0 false rfl rfl rfl ?_ (by repeat' (first | exact True.intro | refine And.intro ?_ ?_ | exact rfl | decide))
  have q8 : (R ++ S2).length = 64 := by rw [List.length_append, q6, q4]
  refine S.recell 17 [.a .u8 (R ++ S2) 64] rfl (fun ρ => congrArg (fun z => Qp ρ [SV.a .u8 z 64]) (by
    show List.take 32 (List.take 0 (List.replicate 64 (0 : Int)) ++ (List.take 32 (List.drop 0 R) ++ List.drop 32 (List.replicate 64 (0 : Int)))) ++ (List.take 32 (List.drop 0 S2) ++ List.drop 64 (List.take 0 (List.replicate 64 (0 : Int)) ++ (List.take 32 (List.drop 0 R) ++ List.drop 32 (List.replicate 64 (0 : Int))))) = R ++ S2
    have r1 : List.take 32 R = R := List.take_of_length_le (by omega)
    have r2 : List.take 32 S2 = S2 := List.take_of_length_le (by omega)
    rw [List.drop_zero, List.drop_zero, r1, r2, List.take_zero, List.nil_append, List.take_append_of_le_length (by omega), r1, List.drop_eq_nil_of_le (by simp [q6]), List.append_nil])) ⟨q8, trivial⟩ rfl ?_
  refine S.go false rfl (by repeat' (first | exact True.intro | refine And.intro ?_ ?_ | assumption | omega | (dsimp only; omega) | (simp only [Nat.add_eq, Nat.mul_eq, Nat.sub_eq, SV.wd]; omega) | exact rfl)) ?_
  exact S.retv rfl rfl rfl rfl rfl
/-- What Verify says: s isn't reduced; the key is no point; or else. -/
theorem QfV {key sig : List Int} (hk : Qh key) (hkl : key.length = 32) (hg : Qh sig) (hgl : sig.length = 64) :
    (¬ Qq (sig.drop 32) 32 < QA -> PV Tryz.prog (gS ++ [fB (.slice a0 n0 c0) m]) 12 [.a .u8 key 32, .o a0 n0 c0, .a .u8 sig 64] (.l false)) /\
    (Qq (sig.drop 32) 32 < QA -> ¬ JJ key -> PV Tryz.prog (gS ++ [fB (.slice a0 n0 c0) m]) 12 [.a .u8 key 32, .o a0 n0 c0, .a .u8 sig 64] (.l false)) /\
    (Qq (sig.drop 32) 32 < QA -> ∀ h : JJ key, PV Tryz.prog (gS ++ [fB (.slice a0 n0 c0) m]) 12 [.a .u8 key 32, .o a0 n0 c0, .a .u8 sig 64] (.c (Zs (Qy (QQ (kB (chB (sig.take 32) key m)) (YZ (ptB key h))) (QQ (kB (sig.drop 32)) bP)) = sig.take 32) inferInstance)) := by
  have gT' : ∀ L w, Hs (gS ++ [fB (.slice a0 n0 c0) m]) L w -> Hs gT L w := fun L w h => DL L w h.pre
  have q1 : (sig.take 32).length = 32 := by rw [List.length_take, hgl]; rfl
  have q2 : (sig.drop 32).length = 32 := by rw [List.length_drop, hgl]
  have b1 := hg.take 32
  have b2 := hg.drop 32
  have h1 := (QiZ b2 q2).up gT'
  obtain ⟨n1, n2⟩ := Qmr hk hkl
  have q3 := U0 (sig.take 32) key m
  have h3 := Hf (a0 := a0) (n0 := n0) (c0 := c0) hm hml b1 q1 hk hkl
  have start : ∀ v : SV, (∀ w L, LL L w -> Hs (gS ++ [fB (.slice a0 n0 c0) m]) L w -> CX Tryz.prog 12 (QO QR [.a .u8 key 32, .o a0 n0 c0, .a .u8 sig 64]) w L (fun _ : Unit => v) (fun _ => []) (fun _ => True)) -> v.wf 0 = true -> PV Tryz.prog (gS ++ [fB (.slice a0 n0 c0) m]) 12 [.a .u8 key 32, .o a0 n0 c0, .a .u8 sig 64] v := fun v H hw => PV.mk' Tryz.func12 rfl rfl rfl hw H
  refine ⟨fun hs => ?_, fun hs hp => ?_, fun hs hp => ?_⟩
  . refine start _ (fun w L hL hG => ?_) rfl
    refine S.enter Qw [.a .u8 key 32, .o a0 n0 c0, .a .u8 sig 64] (gS ++ [fB (.slice a0 n0 c0) m]) Tryz.func12 rfl rfl rfl (fun _ => rfl) hL hG ?_
    refine S.go false rfl (by repeat' (first | exact True.intro | refine And.intro ?_ ?_ | assumption | omega | (dsimp only; omega) | (simp only [Nat.add_eq, Nat.mul_eq, Nat.sub_eq, SV.wd]; omega) | exact rfl)) ?_
    refine S.dr0 false rfl rfl rfl ?_ (by repeat' (first | exact True.intro | refine And.intro ?_ ?_ | assumption | exact rfl | decide))
    refine S.g false rfl ?_
    refine S.cv rfl rfl rfl rfl rfl rfl h1 ?_
    refine S.g false rfl ?_
    refine S.condT rfl hs ?_
    refine S.g false rfl ?_
    exact S.retv rfl rfl rfl rfl rfl
  . refine start _ (fun w L hL hG => ?_) rfl
    refine S.enter Qw [.a .u8 key 32, .o a0 n0 c0, .a .u8 sig 64] (gS ++ [fB (.slice a0 n0 c0) m]) Tryz.func12 rfl rfl rfl (fun _ => rfl) hL hG ?_
    refine S.go false rfl (by repeat' (first | exact True.intro | refine And.intro ?_ ?_ | assumption | omega | (dsimp only; omega) | (simp only [Nat.add_eq, Nat.mul_eq, Nat.sub_eq, SV.wd]; omega) | exact rfl)) ?_
    refine S.dr0 false rfl rfl rfl ?_ (by repeat' (first | exact True.intro | refine And.intro ?_ ?_ | assumption | exact rfl | decide))
    refine S.g false rfl ?_
    refine S.cv rfl rfl rfl rfl rfl rfl h1 ?_
    refine S.g false rfl ?_
    refine S.condF rfl (fun h => h hs) ?_
    refine S.g false rfl ?_
    refine S.cv rfl rfl rfl rfl rfl rfl ((n2 hp).up gT') ?_
    refine S.go false rfl (by repeat' (first | exact True.intro | refine And.intro ?_ ?_ | assumption | omega | (dsimp only; omega) | (simp only [Nat.add_eq, Nat.mul_eq, Nat.sub_eq, SV.wd]; omega) | exact rfl)) ?_
    refine S.condT rfl (by decide) ?_
    refine S.g false rfl ?_
    exact S.retv rfl rfl rfl rfl rfl
  . have hN := (n1 hp).up gT'
    obtain ⟨m1, -⟩ := Qmt (a := chB (sig.take 32) key m) (b := sig.drop 32) (p := Zs (YZ (ptB key hp))) (JW _ _ _) (U0 _ _ _) b2 q2 (Ye _) (Q1 _)
    have hM := (m1 (Qel _)).up gT'
    rw [Qeo] at hM
    have q4 := Q1 (YZ (ptB key hp))
    have q5 := Q1 (Qy (QQ (kB (chB (sig.take 32) key m)) (YZ (ptB key hp))) (QQ (kB (sig.drop 32)) bP))
    generalize Zs (Qy (QQ (kB (chB (sig.take 32) key m)) (YZ (ptB key hp))) (QQ (kB (sig.drop 32)) bP)) = E at *
    generalize Zs (YZ (ptB key hp)) = K2 at *
    generalize chB (sig.take 32) key m = C at *
    refine start _ (fun w L hL hG => ?_) rfl
    refine S.enter Qw [.a .u8 key 32, .o a0 n0 c0, .a .u8 sig 64] (gS ++ [fB (.slice a0 n0 c0) m]) Tryz.func12 rfl rfl rfl (fun _ => rfl) hL hG ?_
    refine S.go false rfl (by repeat' (first | exact True.intro | refine And.intro ?_ ?_ | assumption | omega | (dsimp only; omega) | (simp only [Nat.add_eq, Nat.mul_eq, Nat.sub_eq, SV.wd]; omega) | exact rfl)) ?_
    refine S.dr0 false rfl rfl rfl ?_ (by repeat' (first | exact True.intro | refine And.intro ?_ ?_ | assumption | exact rfl | decide))
    refine S.g false rfl ?_
    refine S.cv rfl rfl rfl rfl rfl rfl h1 ?_
    refine S.g false rfl ?_
    refine S.condF rfl (fun h => h hs) ?_
    refine S.g false rfl ?_
    refine S.cv rfl rfl rfl rfl rfl rfl hN ?_
    refine S.go false rfl (by repeat' (first | exact True.intro | refine And.intro ?_ ?_ | assumption | omega | (dsimp only; omega) | (simp only [Nat.add_eq, Nat.mul_eq, Nat.sub_eq, SV.wd]; omega) | exact rfl)) ?_
    refine S.condF rfl (by decide) ?_
    refine S.g false rfl ?_
    refine S.drp false [(3, .a .u8 C 32), (6, .t [.a .u8 E 32, .i .i64 0])] rfl rfl rfl ?_ (by repeat' (first | exact True.intro | refine And.intro ?_ ?_ | assumption | omega | (dsimp only; omega) | (simp only [Nat.add_eq, Nat.mul_eq, Nat.sub_eq, SV.wd]; omega) | exact rfl))
    refine S.gn 5 false rfl ?_
    refine S.rd 40 (.l true) rfl (fun _ => rfl) ?_
    refine S.go false rfl (by repeat' (first | exact True.intro | refine And.intro ?_ ?_ | assumption | omega | (dsimp only; omega) | (simp only [Nat.add_eq, Nat.mul_eq, Nat.sub_eq, SV.wd]; omega) | exact rfl)) ?_
    exact S.retv rfl rfl rfl rfl rfl
end
end Go.Proofs.YtbiboamaigedjaaGreatDoor
namespace Go.Proofs.YtbiboamaigedjaaGreatDoor
open Go.RowKit
set_option maxRecDepth 100000
set_option linter.unusedSimpArgs false
set_option linter.unusedVariables false
theorem Qaa : En (Em, El, 1) bP := ⟨by show (1 : FF) ≠ 0; decide +kernel, by show Em = Em * 1; decide +kernel, by show El = El * 1; decide +kernel⟩
theorem QeA : (Yb (Em, El, 1) 253 lN).1 = 0 /\ (Yb (Em, El, 1) 253 lN).2.1 = (Yb (Em, El, 1) 253 lN).2.2 := by decide +kernel
theorem Qij : QQ lN bP = XU := Qfe (Jo Qaa 253 lN (by decide +kernel)) QeA.1 QeA.2
theorem Qja : QA = (lN : Int) := by decide +kernel
theorem QiL (n : Nat) : QQ (n % lN) bP = QQ n bP := by
  have h := ZU (lN * (n / lN)) bP (n % lN)
  rw [Nat.div_add_mod] at h
  rw [h, Nat.mul_comm, KI, Qij, GC, Vh]
theorem DJ {l : List Int} (h : Qh l) : ((kB l : Nat) : Int) = Qq l 32 := by
  have := YT l h
  unfold kB; omega
theorem Qgn (z m : List Int) : Qq (sB z m) 32 = (Qq (KX z m) 32 + Qq (chB (Jk z m) (Zr z) m) 32 * Qq (Va z) 32) % QA := by
  unfold sB
  exact JM _ (by unfold QA; omega) (by unfold QA; omega)
theorem Qmd (z m : List Int) : Qq (sB z m) 32 < QA := by rw [Qgn]; unfold QA; omega
theorem Qme (z m : List Int) : kB (sB z m) = (kB (KX z m) + kB (chB (Jk z m) (Zr z) m) * kB (Va z)) % lN := by
  have h := Qgn z m
  rw [<- DJ (QaQ z m), <- DJ (VA z m), <- DJ (JW _ _ _), <- DJ (Z9 z), Qja, <- Int.natCast_mul, <- Int.natCast_add, <- Int.natCast_emod] at h
  exact Int.ofNat.inj h
theorem vrf (c a n : Nat) (o : Pt) : Qy (QQ c (YZ (QQ a bP))) (QQ ((n + c * a) % lN) bP) = QQ n bP := by
  rw [QiL, ZU, QaL, <- KI, Us (QQ n bP), <- XV, KZ, Vh]
theorem Qls (z : List Int) (h : JJ (Zr z)) : ptB (Zr z) h = QQ (kB (Va z)) bP := Qeo _ h
theorem Qjy (z m : List Int) (h : JJ (Zr z)) : Zs (Qy (QQ (kB (chB (Jk z m) (Zr z) m)) (YZ (ptB (Zr z) h))) (QQ (kB (sB z m)) bP)) = Jk z m := by
  rw [Qls, Qme, vrf _ _ _ XU]
  rfl
theorem QdR {c : FF × FF × FF} {P Q : Pt} (h : En c P) (hx : c.1 = Q.x * c.2.2) (hy : c.2.1 = Q.y * c.2.2) : P = Q := by
  obtain ⟨h0, h1, h2⟩ := h
  refine Pt.ext (Qdg h0 ?_) (Qdg h0 ?_)
  . rw [h1] at hx; grobner
  . rw [h2] at hy; grobner
def z0 : List Int := [157, 97, 177, 157, 239, 253, 90, 96, 186, 132, 74, 244, 146, 236, 44, 196, 68, 73, 197, 105, 123, 50, 105, 25, 112, 59, 172, 3, 28, 174, 127, 96]
theorem HQ : Qh z0 := by intro x hx; revert x; decide
def QeZ : List Int := [48, 124, 131, 134, 79, 40, 51, 203, 66, 122, 46, 241, 192, 10, 1, 60, 253, 255, 39, 104, 217, 128, 192, 163, 165, 32, 240, 6, 144, 77, 233, 79]
def Qne : List Int := [155, 79, 10, 254, 40, 11, 116, 106, 119, 134, 132, 231, 84, 66, 80, 32, 87, 183, 71, 58, 3, 240, 143, 150, 245, 163, 142, 146, 135, 224, 31, 143]
theorem QdD : Va z0 = QeZ := by decide +kernel
theorem Qi7 : UR z0 = Qne := by decide +kernel
def A0 : Pt := ⟨38815646466658113194383306759739515082307681141926459231621296960732224964046, 11903303657706407974989296177215005343713679411332034699907763981919547054807, by unfold On; decide +kernel⟩
theorem Qal : kB QeZ < 2 ^ 256 /\ (Yb (Em, El, 1) 256 (kB QeZ)).1 = A0.x * (Yb (Em, El, 1) 256 (kB QeZ)).2.2 /\ (Yb (Em, El, 1) 256 (kB QeZ)).2.1 = A0.y * (Yb (Em, El, 1) 256 (kB QeZ)).2.2 := by decide +kernel
def Qmz : List Int := [215, 90, 152, 1, 130, 177, 10, 183, 213, 75, 254, 211, 201, 100, 7, 58, 14, 225, 114, 243, 218, 166, 35, 37, 175, 2, 26, 104, 247, 7, 81, 26]
theorem Qd4 : Zr z0 = Qmz := by
  unfold Zr
  rw [QdD, QdR (Jo Qaa 256 _ Qal.1) Qal.2.1 Qal.2.2]
  decide +kernel
def Qfn : List Int := [243, 137, 7, 48, 140, 137, 61, 234, 242, 68, 120, 125, 180, 175, 83, 104, 34, 73, 16, 116, 24, 175, 194, 237, 197, 143, 117, 172, 88, 160, 116, 4]
theorem QdV : KX z0 [] = Qfn := by
  unfold KX
  rw [Qi7]
  decide +kernel
def R0 : Pt := ⟨44370630452101398467924320556439323233869374150616132215183787387252341590058, 38448863731492799660668882834560725606410712239157980760146247592118262650597, by unfold On; decide +kernel⟩
theorem Qah : kB Qfn < 2 ^ 256 /\ (Yb (Em, El, 1) 256 (kB Qfn)).1 = R0.x * (Yb (Em, El, 1) 256 (kB Qfn)).2.2 /\ (Yb (Em, El, 1) 256 (kB Qfn)).2.1 = R0.y * (Yb (Em, El, 1) 256 (kB Qfn)).2.2 := by decide +kernel
def r0 : List Int := [229, 86, 67, 0, 195, 96, 172, 114, 144, 134, 226, 204, 128, 110, 130, 138, 132, 135, 127, 30, 184, 229, 217, 116, 216, 115, 224, 101, 34, 73, 1, 85]
theorem Qkk : Jk z0 [] = r0 := by
  unfold Jk
  rw [QdV, QdR (Jo Qaa 256 _ Qah.1) Qah.2.1 Qah.2.2]
  decide +kernel
def s0 : List Int := [95, 184, 130, 21, 144, 163, 59, 172, 198, 30, 57, 112, 28, 249, 180, 107, 210, 91, 245, 240, 89, 91, 190, 36, 101, 81, 65, 67, 142, 122, 16, 11]
theorem Qmf : sB z0 [] = s0 := by
  unfold sB
  rw [QdV, Qkk, Qd4, QdD]
  decide +kernel
end Go.Proofs.YtbiboamaigedjaaGreatDoor
namespace Go.Proofs.YtbiboamaigedjaaGreatDoor
open Go.RowKit
set_option linter.unusedVariables false
set_option linter.unusedSimpArgs false
set_option maxRecDepth 8000
set_option maxHeartbeats 2000000

theorem QhI (L : List Nat) (w : World) : (fB (.slice none 0 0) []).h L w := ⟨⟨by omega, by simp, none, 0, rfl, by simp, by simp [maxLen], by simp, fun h => absurd rfl h⟩, fun a n c e _ => by simp only [Value.slice.injEq] at e; exact e.2.2.symm⟩
section
variable {a0 : Option Addr} {n0 c0 : Nat} {m : List Int} (hm : Qh m) (hml : m.length < 1000000)
include hm hml
theorem QfW (z : List Int) (hz : Qh z) (hl : z.length = 32) : PV Tryz.prog (gS ++ [fB (.slice a0 n0 c0) m]) 12 [.a .u8 (Zr z) 32, .o a0 n0 c0, .a .u8 (Jk z m ++ sB z m) 64] (.l true) := by
  have q6 : (Jk z m).length = 32 := Q1 _
  have q7 := Di z m
  have e1 : (Jk z m ++ sB z m).take 32 = Jk z m := by rw [List.take_append_of_le_length (by omega), List.take_of_length_le (by omega)]
  have e2 : (Jk z m ++ sB z m).drop 32 = sB z m := by rw [List.drop_append_of_le_length (by omega), List.drop_eq_nil_of_le (by omega), List.nil_append]
  have hb : Qh (Jk z m ++ sB z m) := fun x hx => (List.mem_append.1 hx).elim (Ye _ x) (QaQ z m x)
  obtain ⟨-, -, h3⟩ := QfV (a0 := a0) (n0 := n0) (c0 := c0) hm hml (key := Zr z) (sig := Jk z m ++ sB z m) (Ye _) (Q1 _) hb (by rw [List.length_append]; omega)
  rw [e1, e2] at h3
  have hk : JJ (Zr z) := Qel _
  have h := h3 (Qmd z m) hk
  exact h.res (by simp only [SV.den]; rw [decide_eq_true (Qjy z m hk)]) rfl
end
set_option maxHeartbeats 2000000 in
theorem Qj7 : PV Tryz.prog gS 5 [] (.l true) := by
  have hP := (Qa1 HQ rfl).up (G' := gS ++ [fB (.slice none 0 0) []]) (fun L w h => h.pre)
  have hS := Qgh (a0 := none) (n0 := 0) (c0 := 0) (m := []) (by intro x hx; cases hx) (by simp) HQ rfl
  have hV := QfW (a0 := none) (n0 := 0) (c0 := 0) (m := []) (by intro x hx; cases hx) (by simp) z0 HQ rfl
  change PV _ _ _ _ (.a .u8 (Zr z0) 32) at hP
  rw [Qd4] at hP hV
  rw [Qkk, Qmf] at hS hV
  refine PV.mk' Tryz.func5 rfl rfl rfl rfl fun w L hL hG => ?_
  refine S.enter Qw [] (gS ++ [fB (.slice none 0 0) []]) Tryz.func5 rfl rfl rfl (fun _ => rfl) hL (hG.app ⟨QhI _ _, trivial⟩) ?_
  refine S.g false rfl ?_
  refine S.recell 0 [.a .u8 z0 32] rfl (fun ρ => rfl) ⟨rfl, trivial⟩ rfl ?_
  refine S.drp false [(1, .a .u8 Qmz 32), (3, .a .u8 (r0 ++ s0) 64)] rfl rfl rfl ?_ (by repeat' (first | exact True.intro | refine And.intro ?_ ?_ | assumption | exact rfl | decide))
  refine S.gn 6 false rfl ?_ (by repeat' (first | exact True.intro | refine And.intro ?_ ?_ | assumption | exact rfl | decide))
  refine S.rd 12 (.l true) rfl (fun _ => rfl) ?_
  refine S.gn 5 false rfl ?_ (by repeat' (first | exact True.intro | refine And.intro ?_ ?_ | assumption | exact rfl | decide))
  refine S.rd 17 (.l true) rfl (fun _ => rfl) ?_
  refine S.gn 5 false rfl ?_ (by repeat' (first | exact True.intro | refine And.intro ?_ ?_ | assumption | exact rfl | decide))
  refine S.rd 22 (.l true) rfl (fun _ => rfl) ?_
  refine S.gn 5 false rfl ?_ (by repeat' (first | exact True.intro | refine And.intro ?_ ?_ | assumption | exact rfl | decide))
  refine S.rd 27 (.l true) rfl (fun _ => rfl) ?_
  refine S.gn 5 false rfl ?_ (by repeat' (first | exact True.intro | refine And.intro ?_ ?_ | assumption | exact rfl | decide))
  refine S.rd 32 (.l true) rfl (fun _ => rfl) ?_
  refine S.gn 5 false rfl ?_ (by repeat' (first | exact True.intro | refine And.intro ?_ ?_ | assumption | exact rfl | decide))
  refine S.rd 37 (.l true) rfl (fun _ => rfl) ?_
  refine S.gn 5 false rfl ?_ (by repeat' (first | exact True.intro | refine And.intro ?_ ?_ | assumption | exact rfl | decide))
  refine S.rd 42 (.l true) rfl (fun _ => rfl) ?_
  refine S.go false rfl (by repeat' (first | exact True.intro | refine And.intro ?_ ?_ | assumption | exact rfl | decide)) ?_
  refine S.cv rfl rfl rfl rfl rfl rfl hV ?_
  refine S.g false rfl ?_
  exact S.retv rfl rfl rfl rfl rfl
theorem QmX : Qn 4 QA = [6346243789798364141, 1503914060200516822, 0, 1152921504606846976] := by decide +kernel
theorem L_f : PV Tryz.prog gT 77 [] (.a .u64 (Qn 4 QA) 4) := by
  have h : PV Tryz.prog gT 77 [] (.g [.i .u64 6346243789798364141, .i .u64 1503914060200516822, .i .u64 0, .i .u64 1152921504606846976]) := by
    refine PV.mk' Tryz.func77 rfl rfl rfl rfl fun w L hL hG => ?_
    refine S.enter Qw [] gT Tryz.func77 rfl rfl rfl (fun _ => rfl) hL hG ?_
    refine S.go false rfl (by repeat' (first | exact True.intro | refine And.intro ?_ ?_ | assumption | omega | (dsimp only; omega) | (simp only [Nat.add_eq, Nat.mul_eq, Nat.sub_eq, SV.wd]; omega) | exact rfl)) ?_
    exact S.retv rfl rfl rfl rfl rfl
  rw [QmX]
  exact h.res rfl rfl
theorem Ds : 0 <= QA /\ QA < 2 ^ 256 := by unfold QA; omega
theorem Kg {u v : Int} (hu : 0 <= u /\ u < QA) (hv : 0 <= v /\ v < QA) : PV Tryz.prog gT 56 [.a .u64 (Qn 4 u) 4, .a .u64 (Qn 4 v) 4] (.a .u64 (Qn 4 ((u + v) % QA)) 4) := by
  have hO := Ds
  have hO2 : QA + QA < 2 ^ 256 := by unfold QA; omega
  have h1 := Dq hu.1 hv.1 (by omega)
  have h2 := L_f
  have l1 := Qc 4 u; have l2 := Qc 4 v; have l3 := Qc 4 (u + v); have l4 := Qc 4 QA
  by_cases h : u + v < QA
  . have h3 := QcT (u := u + v) (v := QA) (by omega) Ds h
    rw [Int.emod_eq_of_lt (by omega) h]
    generalize Qn 4 (u + v) = s at *
    generalize Qn 4 u = x at *
    generalize Qn 4 v = y at *
    generalize Qn 4 QA = o at *
    refine PV.mk' Tryz.func56 rfl rfl rfl rfl fun w L hL hG => ?_
    refine S.enter Qw [.a .u64 x 4, .a .u64 y 4] gT Tryz.func56 rfl rfl rfl (fun _ => rfl) hL hG ?_
    refine S.go false rfl (by repeat' (first | exact True.intro | refine And.intro ?_ ?_ | assumption | omega | (dsimp only; omega) | (simp only [Nat.add_eq, Nat.mul_eq, Nat.sub_eq, SV.wd]; omega) | exact rfl)) ?_
    refine S.cv rfl rfl rfl rfl rfl rfl h1 ?_
    refine S.go false rfl (by repeat' (first | exact True.intro | refine And.intro ?_ ?_ | assumption | omega | (dsimp only; omega) | (simp only [Nat.add_eq, Nat.mul_eq, Nat.sub_eq, SV.wd]; omega) | exact rfl)) ?_
    refine S.drp false [(1, .a .u64 o 4), (2, .l true)] rfl rfl rfl ?_ (by repeat' (first | exact True.intro | refine And.intro ?_ ?_ | assumption | omega | (dsimp only; omega) | (simp only [Nat.add_eq, Nat.mul_eq, Nat.sub_eq, SV.wd]; omega) | exact rfl))
    refine S.go false rfl (by repeat' (first | exact True.intro | refine And.intro ?_ ?_ | assumption | omega | (dsimp only; omega) | (simp only [Nat.add_eq, Nat.mul_eq, Nat.sub_eq, SV.wd]; omega) | exact rfl)) ?_
    exact S.retv rfl rfl rfl rfl rfl
  . have h3 := QcU (u := u + v) (v := QA) (by omega) Ds h
    have h4 := Jr (u := u + v) (v := QA) Ds.1 (by omega) (by omega)
    have e : (u + v) % QA = u + v - QA := by unfold QA at *; omega
    rw [e]
    have l5 := Qc 4 (u + v - QA)
    generalize Qn 4 (u + v - QA) = r at *
    generalize Qn 4 (u + v) = s at *
    generalize Qn 4 u = x at *
    generalize Qn 4 v = y at *
    generalize Qn 4 QA = o at *
    refine PV.mk' Tryz.func56 rfl rfl rfl rfl fun w L hL hG => ?_
    refine S.enter Qw [.a .u64 x 4, .a .u64 y 4] gT Tryz.func56 rfl rfl rfl (fun _ => rfl) hL hG ?_
    refine S.go false rfl (by repeat' (first | exact True.intro | refine And.intro ?_ ?_ | assumption | omega | (dsimp only; omega) | (simp only [Nat.add_eq, Nat.mul_eq, Nat.sub_eq, SV.wd]; omega) | exact rfl)) ?_
    refine S.cv rfl rfl rfl rfl rfl rfl h1 ?_
    refine S.go false rfl (by repeat' (first | exact True.intro | refine And.intro ?_ ?_ | assumption | omega | (dsimp only; omega) | (simp only [Nat.add_eq, Nat.mul_eq, Nat.sub_eq, SV.wd]; omega) | exact rfl)) ?_
    refine S.drp false [(1, .a .u64 o 4), (2, .l false)] rfl rfl rfl ?_ (by repeat' (first | exact True.intro | refine And.intro ?_ ?_ | assumption | omega | (dsimp only; omega) | (simp only [Nat.add_eq, Nat.mul_eq, Nat.sub_eq, SV.wd]; omega) | exact rfl))
    refine S.go false rfl (by repeat' (first | exact True.intro | refine And.intro ?_ ?_ | assumption | omega | (dsimp only; omega) | (simp only [Nat.add_eq, Nat.mul_eq, Nat.sub_eq, SV.wd]; omega) | exact rfl)) ?_
    refine S.drp false [(1, .a .u64 o 4), (2, .t [.a .u64 r 4, .i .u64 0])] rfl rfl rfl ?_ (by repeat' (first | exact True.intro | refine And.intro ?_ ?_ | assumption | omega | (dsimp only; omega) | (simp only [Nat.add_eq, Nat.mul_eq, Nat.sub_eq, SV.wd]; omega) | exact rfl))
    refine S.go false rfl (by repeat' (first | exact True.intro | refine And.intro ?_ ?_ | assumption | omega | (dsimp only; omega) | (simp only [Nat.add_eq, Nat.mul_eq, Nat.sub_eq, SV.wd]; omega) | exact rfl)) ?_
    exact S.retv rfl rfl rfl rfl rfl
/-- What is left, as far as it has been reckoned. -/
def Ju (V : Int) (T k : Nat) : Int := V / 2 ^ (T - k) % QA
theorem Qkq (V : Int) (T k : Nat) : 0 <= Ju V T k /\ Ju V T k < QA := by unfold Ju QA; omega
theorem Qmx {V : Int} {T : Nat} (h : 0 <= V /\ V < 2 ^ T) : Ju V T 0 = 0 := by unfold Ju; rw [Nat.sub_zero, Int.ediv_eq_zero_of_lt h.1 h.2]; rfl
theorem Qmw (V : Int) (T : Nat) : Ju V T T = V % QA := by unfold Ju; rw [Nat.sub_self, Int.pow_zero, Int.ediv_one]
theorem Hz (V : Int) {T k : Nat} (hk : k < T) : V / 2 ^ (T - (k + 1)) = 2 * (V / 2 ^ (T - k)) + V / 2 ^ (T - (k + 1)) % 2 := by
  have := Jv V (T - (k + 1))
  rwa [show T - (k + 1) + 1 = T - k by omega] at this
theorem Qd1 (V : Int) {T k : Nat} (hk : k < T) (h : V / 2 ^ (T - (k + 1)) % 2 = 0) : (Ju V T k + Ju V T k) % QA = Ju V T (k + 1) := by
  have := Hz V hk
  unfold Ju QA
  omega
theorem Qhq (V : Int) {T k : Nat} (hk : k < T) (h : V / 2 ^ (T - (k + 1)) % 2 = 1) : ((Ju V T k + Ju V T k) % QA + 1) % QA = Ju V T (k + 1) := by
  have := Hz V hk
  unfold Ju QA
  omega
theorem ZE : ∀ zs : List Int, (zs.map fun z => [Value.int .u8 z]).flatten = zs.map (Value.int .u8)
  | [] => rfl
  | a :: l => by simp only [List.map_cons, List.flatten_cons, ZE l]; rfl
theorem Qic {zb : List Int} (hb : Qh zb) {k : Nat} (hk : k < 256) : bits .and .u8 (zb.getD (Int.toNat ((255 - (k : Int)) / 8)) 0 / 2 ^ Int.toNat ((255 - (k : Int)) % 8)) 1 = Qq zb 32 / 2 ^ (256 - (k + 1)) % 2 := by
  have e1 : Int.toNat ((255 - (k : Int)) / 8) = (255 - k) / 8 := by omega
  have e2 : Int.toNat ((255 - (k : Int)) % 8) = (255 - k) % 8 := by omega
  rw [e1, e2, QJ, show 256 - (k + 1) = 255 - k by omega, <- Gn zb hb 32 (255 - k) (by omega)]
  exact Vp (VL (hb.at ((255 - k) / 8)) _)
attribute [local irreducible] Ju in
set_option maxHeartbeats 1000000 in
theorem Qhv {zb : List Int} (hb : Qh zb) (hl : zb.length = 32) {a0 : Option Addr} : PV Tryz.prog (gT ++ [fB (.slice a0 32 32) zb]) 55 [.o a0 32 32] (.a .u64 (Qn 4 (Qq zb 32 % QA)) 4) := by
  have hV := UG zb hb 32
  rw [<- Qmw (Qq zb 32) 256]
  have h00 := Qmx (T := 256) hV
  refine PV.mk' Tryz.func55 rfl rfl rfl rfl fun w L hL hG => ?_
  refine S.enter Qw [.o a0 32 32] (gT ++ [fB (.slice a0 32 32) zb]) Tryz.func55 rfl rfl rfl (fun _ => rfl) hL hG ?_
  refine S.slc 0 [.a .u8 zb 32] rfl (fun ρ w h => (h.f 3 rfl).1) (by rw [ZE]; simp [Qp, SV.cs]) (by simp [YC, SV.wd]) ?_ ⟨hl, trivial⟩
  generalize hVe : Qq zb 32 = V at hV h00 ⊢
  have n0 := Qc 4 (Ju V 256 0)
  refine S.go false rfl (by repeat' (first | exact True.intro | refine And.intro ?_ ?_ | omega | (dsimp only; omega) | (simp only [Nat.add_eq, Nat.mul_eq, Nat.sub_eq, SV.wd]; omega) | exact rfl)) ?_
  refine S.recell 2 [.a .u64 (Qn 4 (Ju V 256 0)) 4] rfl (fun ρ => by rw [h00, <- E3]; rfl) ⟨n0, trivial⟩ rfl ?_
  refine S.loop [0, 2, 3] (fun k : Nat => [(4, .i .i64 (255 - (k : Int)))]) (fun k => [(1, [.i .u64 0, .i .u64 0, .i .u64 0, .i .u64 0]), (2, [.a .u64 (Qn 4 (Ju V 256 k)) 4])]) (fun _ => []) (fun k => k <= 256) (fun k => 256 - k) 0 rfl (fun _ => rfl) (fun _ => rfl) rfl ⟨⟨rfl, by simp⟩, trivial⟩ (by repeat' (first | exact True.intro | refine And.intro ?_ ?_ | exact n0 | exact rfl)) (fun _ _ _ => trivial) (by omega) fun J k hk again => ?_
  have hk' : k <= 256 := hk
  have n1 := Qc 4 (Ju V 256 k)
  have n2 := Qc 4 (Ju V 256 (k + 1))
  refine S.g false rfl ?_
  refine S.cond rfl (fun c5 => ?_) (fun c5 => ?_)
  . have c' : k < 256 := by omega
    have hs := Qkq V 256 k
    have hP := Kg hs hs
    have n3 := Qc 4 ((Ju V 256 k + Ju V 256 k) % QA)
    have hbe := Qic hb c'
    refine S.go false rfl (by repeat' (first | exact True.intro | refine And.intro ?_ ?_ | omega | (dsimp only; omega) | (simp only [Nat.add_eq, Nat.mul_eq, Nat.sub_eq, SV.wd]; omega) | exact rfl)) ?_
    refine S.cv rfl rfl rfl rfl rfl rfl (hP.up (fun L w h => h.pre)) ?_
    refine S.go false rfl (by repeat' (first | exact True.intro | refine And.intro ?_ ?_ | exact n3 | exact hl | omega | (dsimp only; omega) | exact rfl)) ?_
    refine S.cond rfl (fun c2 => ?_) (fun c2 => ?_)
    . replace c2 : Qq zb 32 / 2 ^ (256 - (k + 1)) % 2 = 1 := by rw [<- hbe]; exact c2
      rw [hVe] at c2
      have et := Qhq V c' c2
      have h1 : 0 <= (1 : Int) /\ (1 : Int) < QA := by unfold QA; omega
      have hQ := (Kg (u := (Ju V 256 k + Ju V 256 k) % QA) (v := 1) (by unfold QA; omega) h1).arg (QbB Fx)
      rw [et] at hQ
      refine S.go false rfl (by repeat' (first | exact True.intro | refine And.intro ?_ ?_ | omega | (dsimp only; omega) | (simp only [Nat.add_eq, Nat.mul_eq, Nat.sub_eq, SV.wd]; omega) | exact rfl)) ?_
      refine S.cv rfl rfl rfl rfl rfl rfl (hQ.up (fun L w h => h.pre)) ?_
      refine S.go false rfl (by repeat' (first | exact True.intro | refine And.intro ?_ ?_ | exact n2 | exact n3 | omega | (dsimp only; omega) | exact rfl)) ?_
      refine S.again (again (k + 1) (show k + 1 <= 256 by omega) (show 256 - (k + 1) < 256 - k by omega)) ⟨⟨rfl, by omega⟩, rfl, rfl, rfl, trivial⟩ ?_ rfl rfl (fun x hx => hx) rfl (fun ρ W h => h.hs)
      repeat' (first | exact True.intro | refine And.intro ?_ ?_ | exact n2 | exact rfl)
    . replace c2 : ¬ Qq zb 32 / 2 ^ (256 - (k + 1)) % 2 = 1 := by rw [<- hbe]; exact c2
      rw [hVe] at c2
      have et := Qd1 V c' (by omega)
      refine S.go false rfl (by repeat' (first | exact True.intro | refine And.intro ?_ ?_ | exact n2 | exact n3 | omega | (dsimp only; omega) | exact rfl)) ?_
      refine S.again (again (k + 1) (show k + 1 <= 256 by omega) (show 256 - (k + 1) < 256 - k by omega)) ⟨⟨rfl, by omega⟩, rfl, rfl, rfl, trivial⟩ ?_ rfl rfl (fun x hx => hx) rfl (fun ρ W h => h.hs)
      repeat' (first | exact True.intro | refine And.intro ?_ ?_ | exact n2 | exact congrArg (fun z => SV.a .u64 (Qn 4 z) 4) et | exact rfl)
  . obtain rfl : k = 256 := by omega
    refine S.go false rfl (by repeat' (first | exact True.intro | refine And.intro ?_ ?_ | exact n1 | exact rfl)) ?_
    exact S.retv rfl rfl rfl rfl rfl
theorem QlR {zb : List Int} (hb : Qh zb) {k : Nat} (hk : k < 512) : bits .and .u8 (zb.getD (Int.toNat ((511 - (k : Int)) / 8)) 0 / 2 ^ Int.toNat ((511 - (k : Int)) % 8)) 1 = Qq zb 64 / 2 ^ (512 - (k + 1)) % 2 := by
  have e1 : Int.toNat ((511 - (k : Int)) / 8) = (511 - k) / 8 := by omega
  have e2 : Int.toNat ((511 - (k : Int)) % 8) = (511 - k) % 8 := by omega
  rw [e1, e2, QJ, show 512 - (k + 1) = 511 - k by omega, <- Gn zb hb 64 (511 - k) (by omega)]
  exact Vp (VL (hb.at ((511 - k) / 8)) _)
attribute [local irreducible] Ju in
set_option maxHeartbeats 1000000 in
theorem Qhu {zb : List Int} (hb : Qh zb) (hl : zb.length = 64) {a0 : Option Addr} : PV Tryz.prog (gT ++ [fB (.slice a0 64 64) zb]) 55 [.o a0 64 64] (.a .u64 (Qn 4 (Qq zb 64 % QA)) 4) := by
  have hV := UG zb hb 64
  rw [<- Qmw (Qq zb 64) 512]
  have h00 := Qmx (T := 512) hV
  refine PV.mk' Tryz.func55 rfl rfl rfl rfl fun w L hL hG => ?_
  refine S.enter Qw [.o a0 64 64] (gT ++ [fB (.slice a0 64 64) zb]) Tryz.func55 rfl rfl rfl (fun _ => rfl) hL hG ?_
  refine S.slc 0 [.a .u8 zb 64] rfl (fun ρ w h => (h.f 3 rfl).1) (by rw [ZE]; simp [Qp, SV.cs]) (by simp [YC, SV.wd]) ?_ ⟨hl, trivial⟩
  generalize hVe : Qq zb 64 = V at hV h00 ⊢
  have n0 := Qc 4 (Ju V 512 0)
  refine S.go false rfl (by repeat' (first | exact True.intro | refine And.intro ?_ ?_ | omega | (dsimp only; omega) | (simp only [Nat.add_eq, Nat.mul_eq, Nat.sub_eq, SV.wd]; omega) | exact rfl)) ?_
  refine S.recell 2 [.a .u64 (Qn 4 (Ju V 512 0)) 4] rfl (fun ρ => by rw [h00, <- E3]; rfl) ⟨n0, trivial⟩ rfl ?_
  refine S.loop [0, 2, 3] (fun k : Nat => [(4, .i .i64 (511 - (k : Int)))]) (fun k => [(1, [.i .u64 0, .i .u64 0, .i .u64 0, .i .u64 0]), (2, [.a .u64 (Qn 4 (Ju V 512 k)) 4])]) (fun _ => []) (fun k => k <= 512) (fun k => 512 - k) 0 rfl (fun _ => rfl) (fun _ => rfl) rfl ⟨⟨rfl, by simp⟩, trivial⟩ (by repeat' (first | exact True.intro | refine And.intro ?_ ?_ | exact n0 | exact rfl)) (fun _ _ _ => trivial) (by omega) fun J k hk again => ?_
  have hk' : k <= 512 := hk
  have n1 := Qc 4 (Ju V 512 k)
  have n2 := Qc 4 (Ju V 512 (k + 1))
  refine S.g false rfl ?_
  refine S.cond rfl (fun c5 => ?_) (fun c5 => ?_)
  . have c' : k < 512 := by omega
    have hs := Qkq V 512 k
    have hP := Kg hs hs
    have n3 := Qc 4 ((Ju V 512 k + Ju V 512 k) % QA)
    have hbe := QlR hb c'
    refine S.go false rfl (by repeat' (first | exact True.intro | refine And.intro ?_ ?_ | omega | (dsimp only; omega) | (simp only [Nat.add_eq, Nat.mul_eq, Nat.sub_eq, SV.wd]; omega) | exact rfl)) ?_
    refine S.cv rfl rfl rfl rfl rfl rfl (hP.up (fun L w h => h.pre)) ?_
    refine S.go false rfl (by repeat' (first | exact True.intro | refine And.intro ?_ ?_ | exact n3 | exact hl | omega | (dsimp only; omega) | exact rfl)) ?_
    refine S.cond rfl (fun c2 => ?_) (fun c2 => ?_)
    . replace c2 : Qq zb 64 / 2 ^ (512 - (k + 1)) % 2 = 1 := by rw [<- hbe]; exact c2
      rw [hVe] at c2
      have et := Qhq V c' c2
      have h1 : 0 <= (1 : Int) /\ (1 : Int) < QA := by unfold QA; omega
      have hQ := (Kg (u := (Ju V 512 k + Ju V 512 k) % QA) (v := 1) (by unfold QA; omega) h1).arg (QbB Fx)
      rw [et] at hQ
      refine S.go false rfl (by repeat' (first | exact True.intro | refine And.intro ?_ ?_ | omega | (dsimp only; omega) | (simp only [Nat.add_eq, Nat.mul_eq, Nat.sub_eq, SV.wd]; omega) | exact rfl)) ?_
      refine S.cv rfl rfl rfl rfl rfl rfl (hQ.up (fun L w h => h.pre)) ?_
      refine S.go false rfl (by repeat' (first | exact True.intro | refine And.intro ?_ ?_ | exact n2 | exact n3 | omega | (dsimp only; omega) | exact rfl)) ?_
      refine S.again (again (k + 1) (show k + 1 <= 512 by omega) (show 512 - (k + 1) < 512 - k by omega)) ⟨⟨rfl, by omega⟩, rfl, rfl, rfl, trivial⟩ ?_ rfl rfl (fun x hx => hx) rfl (fun ρ W h => h.hs)
      repeat' (first | exact True.intro | refine And.intro ?_ ?_ | exact n2 | exact rfl)
    . replace c2 : ¬ Qq zb 64 / 2 ^ (512 - (k + 1)) % 2 = 1 := by rw [<- hbe]; exact c2
      rw [hVe] at c2
      have et := Qd1 V c' (by omega)
      refine S.go false rfl (by repeat' (first | exact True.intro | refine And.intro ?_ ?_ | exact n2 | exact n3 | omega | (dsimp only; omega) | exact rfl)) ?_
      refine S.again (again (k + 1) (show k + 1 <= 512 by omega) (show 512 - (k + 1) < 512 - k by omega)) ⟨⟨rfl, by omega⟩, rfl, rfl, rfl, trivial⟩ ?_ rfl rfl (fun x hx => hx) rfl (fun ρ W h => h.hs)
      repeat' (first | exact True.intro | refine And.intro ?_ ?_ | exact n2 | exact congrArg (fun z => SV.a .u64 (Qn 4 z) 4) et | exact rfl)
  . obtain rfl : k = 512 := by omega
    refine S.go false rfl (by repeat' (first | exact True.intro | refine And.intro ?_ ?_ | exact n1 | exact rfl)) ?_
    exact S.retv rfl rfl rfl rfl rfl
theorem Qbu {zb : List Int} (hb : Qh zb) (hl : zb.length = 32) (k : Nat) : PR Tryz.prog gT 55 [.y k 0 32 32] [(k, [.a .u8 zb 32])] (.a .u64 (Qn 4 (Qq zb 32 % QA)) 4) := PR.mk' Tryz.func55 rfl rfl rfl fun ρ w hG hm => by
  obtain ⟨b1, -⟩ := hm _ (.head _)
  simp only [Qp, SV.cs, SV.den, List.append_nil] at b1
  have hr := Q8.rows (s := 1) (rows := zb.map fun z => [Value.int .u8 z]) (by rw [ZE]; exact b1) (by omega) (fun r hr => by simp only [List.mem_map] at hr; obtain ⟨x, _, rfl⟩ := hr; rfl) (by simp [hl, maxLen])
  rw [List.length_map, hl] at hr
  have hf : (fB (.slice (some ⟨ρ.b k, 0, none⟩) 32 32) zb).h [] w := ⟨hr, fun a n c e ha => by cases e; cases ha⟩
  have h := (Qhv hb hl (a0 := some ⟨ρ.b k, 0, none⟩)).h w [] (LL.none w) (hG.app ⟨hf, trivial⟩)
  simp only [QO, SV.den] at h ⊢
  exact h
theorem Qht {zb : List Int} (hb : Qh zb) (hl : zb.length = 64) (k : Nat) : PR Tryz.prog gT 55 [.y k 0 64 64] [(k, [.a .u8 zb 64])] (.a .u64 (Qn 4 (Qq zb 64 % QA)) 4) := PR.mk' Tryz.func55 rfl rfl rfl fun ρ w hG hm => by
  obtain ⟨b1, -⟩ := hm _ (.head _)
  simp only [Qp, SV.cs, SV.den, List.append_nil] at b1
  have hr := Q8.rows (s := 1) (rows := zb.map fun z => [Value.int .u8 z]) (by rw [ZE]; exact b1) (by omega) (fun r hr => by simp only [List.mem_map] at hr; obtain ⟨x, _, rfl⟩ := hr; rfl) (by simp [hl, maxLen])
  rw [List.length_map, hl] at hr
  have hf : (fB (.slice (some ⟨ρ.b k, 0, none⟩) 64 64) zb).h [] w := ⟨hr, fun a n c e ha => by cases e; cases ha⟩
  have h := (Qhu hb hl (a0 := some ⟨ρ.b k, 0, none⟩)).h w [] (LL.none w) (hG.app ⟨hf, trivial⟩)
  simp only [QO, SV.den] at h ⊢
  exact h
theorem Qgz {za : List Int} (hb : Qh za) (hl : za.length = 64) : PV Tryz.prog gT 54 [.a .u8 za 64] (.a .u8 (Xf (Qq za 64 % QA)) 32) := by
  have h1 := Qht hb hl 0
  have h2 := D8 (Qq za 64 % QA)
  have l1 := Qc 4 (Qq za 64 % QA); have l2 := QP (Qq za 64 % QA)
  generalize Qn 4 (Qq za 64 % QA) = x at *
  generalize Xf (Qq za 64 % QA) = y at *
  refine PV.mk' Tryz.func54 rfl rfl rfl rfl fun w L hL hG => ?_
  refine S.enter Qw [.a .u8 za 64] gT Tryz.func54 rfl rfl rfl (fun _ => rfl) hL hG ?_
  refine S.go false rfl (by repeat' (first | exact True.intro | refine And.intro ?_ ?_ | assumption | omega | (dsimp only; omega) | (simp only [Nat.add_eq, Nat.mul_eq, Nat.sub_eq, SV.wd]; omega) | exact rfl)) ?_
  refine S.cr [0] rfl rfl rfl rfl rfl rfl rfl h1 ?_
  refine S.go false rfl (by repeat' (first | exact True.intro | refine And.intro ?_ ?_ | assumption | omega | (dsimp only; omega) | (simp only [Nat.add_eq, Nat.mul_eq, Nat.sub_eq, SV.wd]; omega) | exact rfl)) ?_
  refine S.cv rfl rfl rfl rfl rfl rfl h2 ?_
  refine S.go false rfl (by repeat' (first | exact True.intro | refine And.intro ?_ ?_ | assumption | omega | (dsimp only; omega) | (simp only [Nat.add_eq, Nat.mul_eq, Nat.sub_eq, SV.wd]; omega) | exact rfl)) ?_
  exact S.retv rfl rfl rfl rfl rfl
/-- A product, as far as it has been reckoned. -/
def Hi (x B : Int) (k : Nat) : Int := x * (B / 2 ^ (256 - k)) % QA
theorem Qkp (x B : Int) (k : Nat) : 0 <= Hi x B k /\ Hi x B k < QA := by unfold Hi QA; omega
theorem Qnh {x B : Int} (h : 0 <= B /\ B < 2 ^ 256) : Hi x B 0 = 0 := by unfold Hi; rw [Nat.sub_zero, Int.ediv_eq_zero_of_lt h.1 h.2, Int.mul_zero]; rfl
theorem Qll (x B : Int) : Hi x B 256 = x * B % QA := by unfold Hi; rw [Nat.sub_self, Int.pow_zero, Int.ediv_one]
theorem Qjk (x B : Int) {k : Nat} (hk : k < 256) (h : B / 2 ^ (256 - (k + 1)) % 2 = 0) : (Hi x B k + Hi x B k) % QA = Hi x B (k + 1) := by
  have e := Hz B hk
  rw [h, Int.add_zero] at e
  unfold Hi
  rw [e, Int.mul_left_comm]
  generalize x * (B / 2 ^ (256 - k)) = y
  unfold QA
  omega
theorem Qlj (x B : Int) {k : Nat} (hk : k < 256) (h : B / 2 ^ (256 - (k + 1)) % 2 = 1) : ((Hi x B k + Hi x B k) % QA + x) % QA = Hi x B (k + 1) := by
  have e := Hz B hk
  rw [h] at e
  unfold Hi
  rw [e, Int.mul_add, Int.mul_left_comm, Int.mul_one]
  generalize x * (B / 2 ^ (256 - k)) = y
  unfold QA
  omega
theorem Qlk (A B C : Int) : ((A % QA) * B % QA + C % QA) % QA = (C + A * B) % QA := by
  rw [mm1, <- Int.add_emod, Int.add_comm]
attribute [local irreducible] Hi in
set_option maxHeartbeats 1000000 in
theorem Qhe {xb yb cb : List Int} (hx : Qh xb) (hy : Qh yb) (hc : Qh cb) (hxl : xb.length = 32) (hyl : yb.length = 32) (hcl : cb.length = 32) : PV Tryz.prog gT 23 [.a .u8 xb 32, .a .u8 yb 32, .a .u8 cb 32] (.a .u8 (Xf ((Qq cb 32 + Qq xb 32 * Qq yb 32) % QA)) 32) := by
  have hA := Qbu hx hxl 0
  have hC := Qbu hc hcl 2
  have hB := UG yb hy 32
  have hbe := fun k (h : k < 256) => Qic hy (k := k) h
  generalize hxe : Qq xb 32 % QA = x at *
  have hx0 : 0 <= x /\ x < QA := by rw [<- hxe]; unfold QA; omega
  have hc0 : 0 <= Qq cb 32 % QA /\ Qq cb 32 % QA < QA := by unfold QA; omega
  have hend := Qlk (Qq xb 32) (Qq yb 32) (Qq cb 32)
  rw [hxe, <- Qll] at hend
  have hS := Kg (Qkp x (Qq yb 32) 256) hc0
  rw [hend] at hS
  have hO := D8 ((Qq cb 32 + Qq xb 32 * Qq yb 32) % QA)
  have hol := QP ((Qq cb 32 + Qq xb 32 * Qq yb 32) % QA)
  have hsl := Qc 4 ((Qq cb 32 + Qq xb 32 * Qq yb 32) % QA)
  generalize Xf ((Qq cb 32 + Qq xb 32 * Qq yb 32) % QA) = o at *
  generalize Qn 4 ((Qq cb 32 + Qq xb 32 * Qq yb 32) % QA) = s4 at *
  have hcl4 := Qc 4 (Qq cb 32 % QA)
  generalize Qn 4 (Qq cb 32 % QA) = c4 at *
  have hxl4 := Qc 4 x
  have h00 := Qnh (x := x) hB
  have n0 := Qc 4 (Hi x (Qq yb 32) 0)
  generalize Qq yb 32 = Y at *
  clear hend
  refine PV.mk' Tryz.func23 rfl rfl rfl rfl fun w L hL hG => ?_
  refine S.enter Qw [.a .u8 xb 32, .a .u8 yb 32, .a .u8 cb 32] gT Tryz.func23 rfl rfl rfl (fun _ => rfl) hL hG ?_
  refine S.go false rfl (by repeat' (first | exact True.intro | refine And.intro ?_ ?_ | omega | (dsimp only; omega) | (simp only [Nat.add_eq, Nat.mul_eq, Nat.sub_eq, SV.wd]; omega) | exact rfl)) ?_
  refine S.cr [0] rfl rfl rfl rfl rfl rfl rfl hA ?_
  refine S.go false rfl (by repeat' (first | exact True.intro | refine And.intro ?_ ?_ | omega | (dsimp only; omega) | (simp only [Nat.add_eq, Nat.mul_eq, Nat.sub_eq, SV.wd]; omega) | exact rfl)) ?_
  refine S.recell 5 [.a .u64 (Qn 4 (Hi x Y 0)) 4] rfl (fun ρ => by rw [h00, <- E3]; rfl) ⟨n0, trivial⟩ rfl ?_
  refine S.loop [3, 4, 5, 6, 7, 8] (fun k : Nat => [(9, .i .i64 (255 - (k : Int)))]) (fun k => [(0, [.a .u8 xb 32]), (1, [.a .u8 yb 32]), (2, [.a .u8 cb 32]), (3, [.a .u8 (List.replicate 32 0) 32]), (4, [.a .u64 (Qn 4 x) 4]), (5, [.a .u64 (Qn 4 (Hi x Y k)) 4])]) (fun _ => []) (fun k => k <= 256) (fun k => 256 - k) 0 rfl (fun _ => rfl) (fun _ => rfl) rfl ⟨⟨rfl, by simp⟩, trivial⟩ (by repeat' (first | exact True.intro | refine And.intro ?_ ?_ | exact n0 | exact hxl | exact hyl | exact hcl | exact hxl4 | exact rfl)) (fun _ _ _ => trivial) (by omega) fun J k hk again => ?_
  have hk' : k <= 256 := hk
  have n1 := Qc 4 (Hi x Y k)
  have n2 := Qc 4 (Hi x Y (k + 1))
  refine S.g false rfl ?_
  refine S.cond rfl (fun c5 => ?_) (fun c5 => ?_)
  . have c' : k < 256 := by omega
    have hs := Qkp x Y k
    have hP := Kg hs hs
    have n3 := Qc 4 ((Hi x Y k + Hi x Y k) % QA)
    refine S.go false rfl (by repeat' (first | exact True.intro | refine And.intro ?_ ?_ | omega | (dsimp only; omega) | (simp only [Nat.add_eq, Nat.mul_eq, Nat.sub_eq, SV.wd]; omega) | exact rfl)) ?_
    refine S.cv rfl rfl rfl rfl rfl rfl hP ?_
    refine S.go false rfl (by repeat' (first | exact True.intro | refine And.intro ?_ ?_ | exact n3 | exact hyl | omega | (dsimp only; omega) | exact rfl)) ?_
    refine S.cond rfl (fun c2 => ?_) (fun c2 => ?_)
    . replace c2 : Y / 2 ^ (256 - (k + 1)) % 2 = 1 := by rw [<- hbe k c']; exact c2
      have et := Qlj x Y c' c2
      have hQ := Kg (u := (Hi x Y k + Hi x Y k) % QA) (v := x) (by unfold QA; omega) hx0
      rw [et] at hQ
      refine S.go false rfl (by repeat' (first | exact True.intro | refine And.intro ?_ ?_ | omega | (dsimp only; omega) | (simp only [Nat.add_eq, Nat.mul_eq, Nat.sub_eq, SV.wd]; omega) | exact rfl)) ?_
      refine S.cv rfl rfl rfl rfl rfl rfl hQ ?_
      refine S.go false rfl (by repeat' (first | exact True.intro | refine And.intro ?_ ?_ | exact n2 | exact n3 | omega | (dsimp only; omega) | exact rfl)) ?_
      refine S.again (again (k + 1) (show k + 1 <= 256 by omega) (show 256 - (k + 1) < 256 - k by omega)) ⟨⟨rfl, by omega⟩, rfl, rfl, rfl, rfl, rfl, rfl, trivial⟩ ?_ rfl rfl (fun x hx => hx) rfl (fun ρ W h => h.hs)
      repeat' (first | exact True.intro | refine And.intro ?_ ?_ | exact n2 | exact hxl | exact hyl | exact hcl | exact hxl4 | exact rfl)
    . replace c2 : ¬ Y / 2 ^ (256 - (k + 1)) % 2 = 1 := by rw [<- hbe k c']; exact c2
      have et := Qjk x Y c' (by omega)
      refine S.go false rfl (by repeat' (first | exact True.intro | refine And.intro ?_ ?_ | exact n2 | exact n3 | omega | (dsimp only; omega) | exact rfl)) ?_
      refine S.again (again (k + 1) (show k + 1 <= 256 by omega) (show 256 - (k + 1) < 256 - k by omega)) ⟨⟨rfl, by omega⟩, rfl, rfl, rfl, rfl, rfl, rfl, trivial⟩ ?_ rfl rfl (fun x hx => hx) rfl (fun ρ W h => h.hs)
      repeat' (first | exact True.intro | refine And.intro ?_ ?_ | exact n2 | exact hxl | exact hyl | exact hcl | exact hxl4 | exact congrArg (fun z => SV.a .u64 (Qn 4 z) 4) et | exact rfl)
  . obtain rfl : k = 256 := by omega
    refine S.g false rfl ?_
    refine S.drq false [(2, .a .u64 c4 4), (3, .a .u64 s4 4), (4, .a .u8 o 32)] [(2, [2])] rfl rfl rfl ?_ (by repeat' (first | exact True.intro | refine And.intro ?_ ?_ | exact n1 | exact hS | exact hO | exact hC | exact hol | exact hsl | exact hcl4 | exact hcl | exact Nat.zero_le _ | exact Nat.le_refl _ | exact rfl))
    refine S.go false rfl (by repeat' (first | exact True.intro | refine And.intro ?_ ?_ | exact hol | exact rfl)) ?_
    exact S.retv rfl rfl rfl rfl rfl
theorem QjR {za : List Int} (hb : Qh za) (hl : za.length = 32) : PV Tryz.prog gT 38 [.a .u8 za 32] (.a .u8 (Ek za) 32) := by
  have h0 := hb.at 0; have h31 := hb.at 31
  have hcl := FZ hl
  have g0 : za.getD 0 0 = Qb za 0 := QJ za 0
  have g31 : (za.set 0 (za.getD 0 0 / 8 * 8)).getD 31 0 = Qb za 31 := by rw [QJ, KA (by omega)]
  have e : Ek za = (za.set 0 (za.getD 0 0 / 8 * 8)).set 31 ((za.set 0 (za.getD 0 0 / 8 * 8)).getD 31 0 % 64 + 64) := by
    unfold Ek
    rw [g0, Qh6 (by omega), <- g0, g31, Qh7 (by omega)]
  rw [e] at hcl ⊢
  have q0 : (za.set 0 (za.getD 0 0 / 8 * 8)).length = 32 := by rw [List.length_set]; exact hl
  have q1 : 0 <= za.getD 0 0 / 8 * 8 := by omega
  have q2 : za.getD 0 0 / 8 * 8 < 256 := by omega
  have q3 : 0 <= (za.set 0 (za.getD 0 0 / 8 * 8)).getD 31 0 % 64 + 64 := by omega
  have q4 : (za.set 0 (za.getD 0 0 / 8 * 8)).getD 31 0 % 64 + 64 < 256 := by omega
  have q5 : 0 <= za.getD 0 0 := by omega
  have q6 : 0 <= (za.set 0 (za.getD 0 0 / 8 * 8)).getD 31 0 := by omega
  have q7 : za.getD 0 0 < 256 := by omega
  have q9 : 0 <= za.getD 0 0 / 8 := by omega
  have q10 : za.getD 0 0 / 8 < 256 := by omega
  have q11 : 0 <= (za.set 0 (za.getD 0 0 / 8 * 8)).getD 31 0 % 64 := by omega
  have q12 : (za.set 0 (za.getD 0 0 / 8 * 8)).getD 31 0 % 64 < 256 := by omega
  have q8 : (za.set 0 (za.getD 0 0 / 8 * 8)).getD 31 0 < 256 := by omega
  refine PV.mk' Tryz.func38 rfl rfl rfl rfl fun w L hL hG => ?_
  refine S.enter Qw [.a .u8 za 32] gT Tryz.func38 rfl rfl rfl (fun _ => rfl) hL hG ?_
  refine S.go false rfl (by repeat' (first | exact True.intro | refine And.intro ?_ ?_ | exact hl | exact hcl | exact q0 | exact q1 | exact q2 | exact q3 | exact q4 | exact q5 | exact q6 | exact q7 | exact q8 | exact q9 | exact q10 | exact q11 | exact q12 | omega | exact rfl)) ?_
  exact S.retv rfl rfl rfl rfl rfl
theorem Qeb (K : IntKind) : ∀ zs : List Int, (zs.map fun z => [Value.int K z]).flatten = zs.map (Value.int K)
  | [] => rfl
  | a :: l => by simp only [List.map_cons, List.flatten_cons, Qeb K l]; rfl
theorem Ql2 {z : Array Value} {v : Value} (h : z = #[v]) (n : Nat) : (Builtin.zeroCells z n).toList = List.replicate n v := by
  rw [h]
  unfold Builtin.zeroCells
  refine List.ext_getElem (by simp) fun j q1 q2 => ?_
  simp [Nat.mod_one]
theorem QiS {P : Program} {w : World} {t ty e : TypeId} (hu : P.underlying t = some (.slice e)) {i : TypeInfo} (hi : P.info? e = some i) {K : IntKind} {Z : Value} (hz : i.zero = some Z) (hzc : Z.cells = #[.int K 0]) (hs : i.size = 1) {B len cap : Nat} {zs news : List Int} {v2 : Value} {L : List Nat} (hl : zs.length = len) (hc1 : len <= cap) (hc2 : cap <= maxLen)
    (hb : Q8 w B ((zs ++ List.replicate (cap - len) 0).map (Value.int K))) (h2 : Zh 1 L w v2 (news.map fun z => [Value.int K z])) (hm : len + news.length <= maxLen) (hby : (len + news.length) * i.bytes <= 140737488355328) :
    ∃ w' B' cap', (Builtin.append_ #[t, t] ty #[.slice (some ⟨B, 0, none⟩) len cap, v2]).run P w = .ok (.slice (some ⟨B', 0, none⟩) (len + news.length) cap') w' /\ len + news.length <= cap' /\ cap' <= maxLen /\ Q8 w' B' (((zs ++ news) ++ List.replicate (cap' - (len + news.length)) 0).map (Value.int K)) /\ YB B B' w w' := by
  obtain ⟨_, hl2, a2, cap2, rfl, hd1, hd2, hd3, hd4⟩ := h2
  rw [List.length_map] at hd1 ⊢
  by_cases hn : news = []
  . subst hn
    refine ⟨w, B, cap, ?_, by simpa using hc1, hc2, by simpa using hb, ⟨rfl, rfl, rfl, Nat.le_refl _, fun _ _ _ => rfl, .inl rfl⟩⟩
    obtain ⟨tt, hb'⟩ := hb
    cases a2 with
    | none =>
      obtain rfl := hd3 rfl
      simp [Builtin.append_, run_underlying hu, sizeOf, typeInfo, hi, Builtin.lenOf, hc1, Builtin.firstCells, storeCells]
    | some a2 =>
      simp [Builtin.append_, run_underlying hu, sizeOf, typeInfo, hi, Builtin.lenOf, hc1, Builtin.firstCells, loadCells, loadCellsFrom, storeCells]
  . obtain ⟨X, o0, rfl, hX, hc⟩ := hd4 (by simpa using hn)
    rw [Qeb] at hc
    obtain ⟨tt, hb'⟩ := hb
    have hnews : ∀ j u, (news.map (Value.int K))[j]? = some u -> w.cell? ((⟨X, o0, none⟩ : Addr).add j) = some u := fun j u hj => by rw [ZS]; exact hc j u hj
    have hflat : (news.map (Value.int K)).length = news.length * i.size := by rw [List.length_map, hs, Nat.mul_one]
    have h1' : ∀ u ∈ news.map (Value.int K), u.oneCell' = true := fun u hu => by
      obtain ⟨z, _, rfl⟩ := List.mem_map.1 hu
      rfl
    by_cases hroom : len + news.length <= cap
    . have hr := G8 (P := P) (w := w) (t := t) (ty := ty) hu hi B len cap _ hb' ⟨X, o0, none⟩ news.length cap2 (news.map (Value.int K)) hflat hnews h1' hroom (by simp [hs, hl]; omega)
      refine ⟨_, B, cap, hr, hroom, hc2, ⟨tt, ?_⟩, YB.of_only (VZ w B _)⟩
      rw [setRow_heap w B _ _ tt _ hb']
      congr 3
      simp only [hs, Nat.mul_one, List.map_append, List.length_map, List.append_assoc]
      have e1 : (zs.map (Value.int K) ++ (List.replicate (cap - len) 0).map (Value.int K)).take len = zs.map (Value.int K) := by rw [List.take_append_of_le_length (by simp [hl]), List.take_of_length_le (by simp [hl])]
      have e2 : (zs.map (Value.int K) ++ (List.replicate (cap - len) 0).map (Value.int K)).drop (len + news.length) = (List.replicate (cap - (len + news.length)) 0).map (Value.int K) := by
        rw [List.drop_append, List.drop_eq_nil_of_le (by simp [hl]), List.nil_append, List.map_replicate, List.map_replicate, List.drop_replicate]
        congr 1
        simp [hl]
        omega
      rw [e1, e2]
    . have holds : ∀ j u, (zs.map (Value.int K))[j]? = some u -> w.cell? ((⟨B, 0, none⟩ : Addr).add j) = some u := fun j u hj => by
        have := (Q8.range ⟨tt, hb'⟩) j u (by rw [List.map_append, List.getElem?_append_left (List.getElem?_eq_some_iff.1 hj).1]; exact hj)
        rw [ZS]; exact this
      have hr := run_append_grow (P := P) w t ty e i Z hu hi hz ⟨B, 0, none⟩ len cap (zs.map (Value.int K)) (by simp [hs, hl]) holds ⟨X, o0, none⟩ news.length cap2 (news.map (Value.int K)) hflat hnews (by omega) (by unfold maxLen at hm; omega) (growslice_fits (by omega) hby)
      refine ⟨_, w.heap.size, grownCap w (len + news.length) cap e, hr, grownCap_ge _ _ _ _, grownCap_le_maxLen _ _ _ _ hm, ⟨e, ?_⟩, YB.of_below (JF (Yo (Below.refl _ _) 1) _)⟩
      rw [show w.heap.size = w.drew.heap.size from (World.size_drew w).symm, heap_alloc_new]
      congr 2
      apply Array.ext'
      simp only [Array.toList_append, List.map_append, List.map_replicate, Ql2 hzc]
def JA (k : Nat) : SM -> SM
  | [] => []
  | x :: m => match Nat.beq x.1 k with
    | true => JA k m
    | false => x :: JA k m
theorem ZQ {k : Nat} {x : Nat × Cl} : ∀ {m : SM}, x ∈ JA k m -> x ∈ m /\ x.1 ≠ k
  | [], h => by cases h
  | y :: m, h => by
    unfold JA at h
    cases hb : Nat.beq y.1 k with
    | true =>
      rw [hb] at h
      have := ZQ (m := m) h
      exact ⟨List.mem_cons_of_mem _ this.1, this.2⟩
    | false =>
      rw [hb] at h
      cases h with
      | head => exact ⟨.head _, fun e => by rw [e, Nat.beq_refl] at hb; cases hb⟩
      | tail _ h => have := ZQ (m := m) h; exact ⟨List.mem_cons_of_mem _ this.1, this.2⟩
theorem GS (k : Nat) : ∀ m : SM, (JA k m).Sublist m
  | [] => .slnil
  | x :: m => by
    unfold JA
    split
    . exact .cons _ (GS k m)
    . exact .cons_cons _ (GS k m)
/-- A block that has grown, under a new name. -/
theorem WM.grow {ρ : QS} {L0 : List Nat} {w0 : World} {m : SM} {d : SD} {n : Nat} {Γ : List QN} {w w' : World} (h : WM ρ L0 w0 m d n Γ w) (hm : HR n m = true) (hd : Hk n d = true) {k : Nat} {c0 c : Cl} (hk : ZI m k = some c0) (hc : YK c) (hcw : VU n c = true) {B' : Nat} (hg : YB (ρ.b k) B' w w') (hb : Q8 w' B' (Qp ρ c)) :
    WM (ρ.setb n B') L0 w0 ((n, c) :: JA k m) d (n + 1) Γ w' := by
  have hkm := Zu hk
  have up := QS.setb_upto ρ n B'
  have hB : ρ.b k ∈ own ρ m L0 := List.mem_append_left _ (List.mem_map_of_mem (f := fun x : Nat × Cl => ρ.b x.1) hkm)
  have hbs := h.bel.size
  have hag : JK [ρ.b k] w w' := ⟨hg.size, fun x hx hlt => hg.block x hlt (by simpa using hx)⟩
  have hst : Stp (own ρ m L0) w w' := ⟨hg.size, fun x hx hlt => hg.block x hlt (fun e => hx (e ▸ hB))⟩
  have hown : own (ρ.setb n B') ((n, c) :: JA k m) L0 = B' :: own ρ (JA k m) L0 := by
    unfold own
    rw [List.map_cons, QS.setb_at, K4 up (fun x hx => h.key x (ZQ hx).1)]
    rfl
  have hsub : ∀ x ∈ own ρ (JA k m) L0, x ∈ own ρ m L0 := fun x hx => by
    rcases List.mem_append.1 hx with h1 | h1
    . obtain ⟨y, hy, rfl⟩ := List.mem_map.1 h1
      exact List.mem_append_left _ (List.mem_map_of_mem (f := fun x : Nat × Cl => ρ.b x.1) (ZQ hy).1)
    . exact List.mem_append_right _ h1
  refine ⟨fun x hx => ?_, fun x hx => ?_, ?_, fun x hx => ?_, hg.below h.bel (h.low _ hkm) hbs, fun x hx => ?_, fun x hx => Nat.lt_succ_of_lt (h.dky x hx), fun x hx => Nat.lt_of_lt_of_le (h.ll x hx) hg.size, ?_⟩
  . cases hx with
    | head => rw [QS.setb_at, <- Xv up c hcw]; exact ⟨hb, hc⟩
    | tail _ hx =>
      obtain ⟨h1, h2⟩ := ZQ hx
      rw [<- (up x.1 (h.key x h1)).1, <- Xv up x.2 (Gy hm x h1).2]
      obtain ⟨⟨t, q1⟩, q2⟩ := h.mem x h1
      have hne : ρ.b x.1 ≠ ρ.b k := Uy h.nod h1 hkm h2
      exact ⟨⟨t, by rw [hg.block _ (Q8.lt ⟨t, q1⟩) hne]; exact q1⟩, q2⟩
  . cases hx with
    | head => exact Nat.lt_succ_self _
    | tail _ hx => exact Nat.lt_succ_of_lt (h.key x (ZQ hx).1)
  . rw [List.map_cons, List.nodup_cons]
    refine ⟨fun hx => ?_, ?_⟩
    . rw [QS.setb_at] at hx
      obtain ⟨y, hy, he⟩ := List.mem_map.1 hx
      obtain ⟨h1, h2⟩ := ZQ hy
      rw [<- (up y.1 (h.key y h1)).1] at he
      rcases hg.new with e | e
      . exact Uy h.nod h1 hkm h2 (by rw [he, e])
      . have := (h.mem y h1).1.lt
        omega
    . rw [K4 up (fun x hx => h.key x (ZQ hx).1)]
      exact List.Nodup.sublist ((GS k m).map _) h.nod
  . cases hx with
    | head =>
      rw [QS.setb_at]
      rcases hg.new with e | e
      . rw [e]; exact h.low _ hkm
      . omega
    | tail _ hx =>
      have h1 := (ZQ hx).1
      rw [<- (up x.1 (h.key x h1)).1]
      exact h.low x h1
  . obtain ⟨h2, h3, h4, h4'⟩ := h.dat x hx
    rw [hown, <- (up x.1 (h.dky x hx)).2, <- Xv up x.2 (HV hd x hx).2]
    have hne : (ρ.d x.1).1 ≠ ρ.b k := fun e => h2 (e ▸ hB)
    refine ⟨?_, Zy h3 hag (by simpa using hne), h4, h4'⟩
    simp only [List.mem_cons, not_or]
    refine ⟨fun e => ?_, fun e => h2 (hsub _ e)⟩
    rcases hg.new with e2 | e2
    . exact hne (e.trans e2)
    . have := ZY h3 (by rw [Xm _ h4]; exact h4')
      omega
  . rw [hown]
    refine h.hs.stp hst fun x hx => ?_
    cases hx with
    | head =>
      rcases hg.new with e | e
      . exact .inl (e ▸ hB)
      . exact .inr e
    | tail _ hx => exact .inl (hsub x hx)
theorem Fg {s : Nat} {L L' : List Nat} {w : World} {v : Value} {rs : List (List Value)} (h : Zh s L w v rs) (hl : ∀ x ∈ L', x ∈ L) : Zh s L' w v rs := by
  obtain ⟨h0, h1, a, cap, h2, h3, h4, h5, h6⟩ := h
  refine ⟨h0, h1, a, cap, h2, h3, h4, h5, fun hn => ?_⟩
  obtain ⟨X, o, e, hX, hr⟩ := h6 hn
  exact ⟨X, o, e, fun hx => hX (hl _ hx), hr⟩
theorem QlL {P : Program} {ops : Array Oper} {o : Oper} {N : Nat} {f : Fl} {w : World} {t e : TypeId} {x y : Operand} {i : TypeInfo} {Z : Value} {K : IntKind} {B len cap : Nat} {zs news : List Int} {v2 : Value} {L : List Nat} (ho : o.op = .call { callee := .builtin .append, args := #[x, y], argTypes := #[t, t] }) (hu : P.underlying t = some (.slice e)) (hi : P.info? e = some i) (hz : i.zero = some Z) (hzc : Z.cells = #[.int K 0]) (hs : i.size = 1)
    (hx : ev f x = some (.slice (some ⟨B, 0, none⟩) len cap)) (hy : ev f y = some v2) (hl : zs.length = len) (hc1 : len <= cap) (hc2 : cap <= maxLen) (hb : Q8 w B ((zs ++ List.replicate (cap - len) 0).map (Value.int K))) (h2 : Zh 1 L w v2 (news.map fun z => [Value.int K z])) (hm : len + news.length <= maxLen) (hby : (len + news.length) * i.bytes <= 140737488355328) (hw : Qu ops o f = some true) :
    DR P ops o N f w fun v' w' => ∃ B' cap', v' = .slice (some ⟨B', 0, none⟩) (len + news.length) cap' /\ len + news.length <= cap' /\ cap' <= maxLen /\ Q8 w' B' (((zs ++ news) ++ List.replicate (cap' - (len + news.length)) 0).map (Value.int K)) /\ YB B B' w w' := fun a ha => by
  have hx := ha.ev hx
  have hy := ha.ev hy
  obtain ⟨w', B', cap', hr, h3⟩ := QiS (w := w) (t := t) (ty := o.type) hu hi hz hzc hs hl hc1 hc2 hb h2 hm hby
  exact Qt.of_wp (Qj ha hw) fun K hK => by
    unfold Oper.wp execOp
    simp only [ho, resolve, invoke, builtin, Sem.run_bind, Sem.run_pure, Result.andThen_ok, List.map_toArray, List.map_cons, List.map_nil, hx, hy, hr]
    exact hK _ _ ⟨B', cap', rfl, h3⟩
/-- An append to a slice of one's own. -/
theorem S.app {c : Cx} {ks : List It} {f : SF} {m : SM} {d : SD} {n : Nat} {Γ : List QN} {ops : Array Oper} {o : Oper} {r : List Oper} {t bytes ty : Nat} {K : IntKind} {x y : Operand} {k len cap : Nat} (zs news : List Int) {v2 : SV} {i j : TI} {cl : Cl}
    (ho : o.op = .call { callee := .builtin .append, args := #[x, y], argTypes := #[ty, ty] }) (hd : o.dst = some t) (hx : Uf f x = some (.y k 0 len cap)) (hy : Uf f y = some v2) (ht : apB c.P ty 1 bytes = true) (hi : c.T.get ty = some i) (hy2 : Nat.beq i.y 2 = true) (hj : c.T.get i.e = some j) (hz : j.z = some [.i K 0])
    (hk : ZI m k = some cl) (hcl : cl = [.a K (zs ++ List.replicate (cap - len) 0) cap]) (hl : zs.length = len) (hc1 : len <= cap) (hc2 : cap <= maxLen) (h2 : ∀ ρ w, WM ρ c.L0 c.w0 m d n Γ w -> Zh 1 [ρ.b k] w (v2.den ρ) (news.map fun z => [Value.int K z])) (hm : len + news.length <= maxLen) (hby : (len + news.length) * bytes <= 140737488355328)
    (kk : ∀ cap', len + news.length <= cap' -> cap' <= maxLen -> S c (.o ops r :: ks) ((t, .y n 0 (len + news.length) cap') :: f) ((n, [.a K ((zs ++ news) ++ List.replicate (cap' - (len + news.length)) 0) cap']) :: JA k m) d (n + 1) Γ)
    (hf : wfF n f = true := by rfl) (hmm : HR n m = true := by rfl) (hdd : Hk n d = true := by rfl) (hg : J7 ops o f = some .on := by rfl) (hlt : Nat.blt t c.N = true := by rfl) : S c (.o ops (o :: r) :: ks) f m d n Γ := fun ρ a w ha hW => by
  subst hcl
  have hx' := QG (ρ := ρ) hx
  have hy' := QG (ρ := ρ) hy
  simp only [SV.den] at hx'
  have hwt := (VG (ρ := ρ)).1 hg
  obtain ⟨z1, z2, Z, z3, z4⟩ := TT.zero c.ok hj hz
  have hu := TT.slc c.ok hi hy2
  obtain ⟨e', i', Z', u1, u2, u3, u4, u5, u6⟩ := UT ht
  rw [hu] at u1
  cases u1
  rw [u2] at z3
  simp only [Option.bind_some] at z3
  rw [u3] at z3
  cases z3
  have hzc : Z.cells = #[.int K 0] := by
    have := z4 ρ
    simp only [Qp, SV.cs, SV.den, List.append_nil] at this
    apply Array.ext'
    rw [this]
  obtain ⟨hb, hok⟩ := hW.cell hk
  simp only [Qp, SV.cs, List.append_nil] at hb
  subst u5
  refine (WL.get (QlL ho hu u2 u3 hzc u4 hx' hy' hl hc1 hc2 hb (h2 ρ w hW) hm hby hwt) hd (decide_eq_true (QY hlt)) (Q := Kn c ks) (rest := r) fun u W hu => ?_) a ha
  obtain ⟨B', cap', rfl, g1, g2, g3, g4⟩ := hu
  have hlen : ((zs ++ news) ++ List.replicate (cap' - (len + news.length)) (0 : Int)).length = cap' := by simp [hl]; omega
  have hW' := hW.grow hmm hdd hk (c := [.a K ((zs ++ news) ++ List.replicate (cap' - (len + news.length)) 0) cap']) ⟨hlen, trivial⟩ rfl g4 (by simp only [Qp, SV.cs, List.append_nil]; exact g3)
  intro a' ha'
  refine kk cap' g1 g2 _ a' W ?_ hW'
  have e : QI (ρ.setb n B') f = QI ρ f := (Ym (QS.setb_upto _ _ _) f hf).symm
  show Fr c.N a' ((t, (SV.y n 0 (len + news.length) cap').den (ρ.setb n B')) :: QI (ρ.setb n B') f)
  rw [e]
  simp only [SV.den, QS.setb_at]
  exact ha'
theorem Qff {a b : Int} (ha : Xh a) (hb : Xh b) : bits BinOp.or .u64 a b = bits BinOp.or .u64 b a := by
  obtain ⟨a, rfl⟩ := Int.eq_ofNat_of_zero_le ha.1
  obtain ⟨b, rfl⟩ := Int.eq_ofNat_of_zero_le hb.1
  have h1 := ha.2
  have h2 := hb.2
  rw [u64_or_nat a b (by omega) (by omega), u64_or_nat b a (by omega) (by omega), Nat.or_comm]
theorem Ur (n : Nat) : (2 : Int) ^ n = ((2 ^ n : Nat) : Int) := by simp
theorem QeO (x n : Int) (hx : Xh x) (h0 : 0 < n) (h1 : n < 64) : bits BinOp.or .u64 (x / 2 ^ n.toNat) (x * 2 ^ (64 - n).toNat % 18446744073709551616) = X6 x (64 - n) := by
  unfold X6
  rw [show (64 - (64 - n)).toNat = n.toNat by omega]
  refine Qff ⟨?_, ?_⟩ ⟨?_, ?_⟩
  . exact Int.ediv_nonneg hx.1 (by rw [Ur]; exact Int.natCast_nonneg _)
  . exact Int.lt_of_le_of_lt (Int.ediv_le_self _ hx.1) hx.2
  . omega
  . omega
theorem QeP (x n : Int) (hx : XC x) (h0 : 0 < n) (h1 : n < 32) : bits BinOp.or .u64 (x / 2 ^ n.toNat) (x * 2 ^ (32 - n).toNat % 18446744073709551616) % 4294967296 = Xp x (32 - n) := by
  unfold Xp
  rw [show (32 - (32 - n)).toNat = n.toNat by omega]
  obtain ⟨a, rfl⟩ := Int.eq_ofNat_of_zero_le hx.1
  have h2 := hx.2
  generalize n.toNat = i at *
  generalize (32 - n).toNat = j at *
  have ha : a < 4294967296 := by omega
  have hd : a / 2 ^ i <= a := Nat.div_le_self _ _
  have e1 : (a : Int) / 2 ^ i = ((a / 2 ^ i : Nat) : Int) := by rw [Ur]; exact (Int.natCast_ediv a (2 ^ i)).symm
  have e2 : (a : Int) * 2 ^ j % 18446744073709551616 = ((a * 2 ^ j % 18446744073709551616 : Nat) : Int) := by rw [Ur]; omega
  have e3 : (a : Int) * 2 ^ j % 4294967296 = ((a * 2 ^ j % 4294967296 : Nat) : Int) := by rw [Ur]; omega
  rw [e1, e2, e3, u64_or_nat _ _ (by omega) (by omega), u32_or_nat _ _ (by omega) (by omega)]
  have e4 : (a / 2 ^ i ||| a * 2 ^ j % 18446744073709551616) % 4294967296 = a * 2 ^ j % 4294967296 ||| a / 2 ^ i := by
    rw [show (4294967296 : Nat) = 2 ^ 32 from rfl, Nat.or_mod_two_pow, Nat.or_comm, Nat.mod_eq_of_lt (a := a / 2 ^ i) (by omega)]
    congr 1
    omega
  rw [<- e4]
  omega
theorem J9 {a b : Int} (ha : XC a) (hb : XC b) : bits BinOp.xor .u64 a b = bits BinOp.xor .u32 a b := by
  obtain ⟨a, rfl⟩ := Int.eq_ofNat_of_zero_le ha.1
  obtain ⟨b, rfl⟩ := Int.eq_ofNat_of_zero_le hb.1
  have h1 := ha.2
  have h2 := hb.2
  rw [u64_xor_nat a b (by omega) (by omega), u32_xor_nat a b (by omega) (by omega)]
theorem Qaf {a b : Int} (ha : XC a) (hb : XC b) : bits BinOp.and .u64 a b = bits BinOp.and .u32 a b := by
  obtain ⟨a, rfl⟩ := Int.eq_ofNat_of_zero_le ha.1
  obtain ⟨b, rfl⟩ := Int.eq_ofNat_of_zero_le hb.1
  have h1 := ha.2
  have h2 := hb.2
  rw [u64_and_nat a b (by omega) (by omega), u32_and_nat a b (by omega) (by omega)]
theorem Qg0 (e g : Nat) (hg : g < 4294967296) : (18446744073709551615 ^^^ e) &&& g = (4294967295 ^^^ e) &&& g := by
  apply Nat.eq_of_testBit_eq
  intro i
  simp only [Nat.testBit_and, Nat.testBit_xor]
  by_cases hi : i < 32
  . have h1 : Nat.testBit 18446744073709551615 i = true := by
      rw [show 18446744073709551615 = 2 ^ 64 - 1 from rfl, Nat.testBit_two_pow_sub_one]; simp; omega
    have h2 : Nat.testBit 4294967295 i = true := by
      rw [show 4294967295 = 2 ^ 32 - 1 from rfl, Nat.testBit_two_pow_sub_one]; simp; omega
    rw [h1, h2]
  . have h3 : Nat.testBit g i = false := Nat.testBit_lt_two_pow (Nat.lt_of_lt_of_le hg (by rw [show (4294967296 : Nat) = 2 ^ 32 from rfl]; exact Nat.pow_le_pow_right (by decide) (by omega)))
    rw [h3]; simp
theorem Qfm {e g : Int} (he : XC e) (hg : XC g) : bits BinOp.and .u64 (X0 e) g = bits BinOp.and .u32 (Qbm e) g := by
  obtain ⟨a, rfl⟩ := Int.eq_ofNat_of_zero_le he.1
  obtain ⟨b, rfl⟩ := Int.eq_ofNat_of_zero_le hg.1
  have h1 := he.2
  have h2 := hg.2
  have e1 : X0 (a : Int) = ((18446744073709551615 ^^^ a : Nat) : Int) := u64_xor_nat 18446744073709551615 a (by omega) (by omega)
  have e2 : Qbm (a : Int) = ((4294967295 ^^^ a : Nat) : Int) := u32_xor_nat 4294967295 a (by omega) (by omega)
  have b1 : 18446744073709551615 ^^^ a < 2 ^ 64 := Nat.xor_lt_two_pow (by omega) (by omega)
  have b2 : 4294967295 ^^^ a < 2 ^ 32 := Nat.xor_lt_two_pow (by omega) (by omega)
  rw [e1, e2, u64_and_nat _ b (by omega) (by omega), u32_and_nat _ b (by omega) (by omega), Qg0 a b (by omega)]
/-- What is laid behind so many bytes: one bit, k bytes in all, the number of bits. -/
def XK (n : Nat) : List Int := (List.range 8).map fun j => (n : Int) * 8 / 2 ^ (8 * (7 - j)) % 256
theorem Yi (n : Nat) : (XK n).length = 8 := rfl
theorem FG (n j : Nat) (h : j < 8) : Qb (XK n) j = (n : Int) * 8 / 2 ^ (8 * (7 - j)) % 256 := by simp [XK, Qb, h]
def Jg (k n : Nat) : List Int := 128 :: (List.replicate (k - 9) 0 ++ XK n)
theorem JN (k n : Nat) (h : 9 <= k) : (Jg k n).length = k := by simp [Jg, Yi]; omega
theorem G5 (k n : Nat) : Qh (Jg k n) := by
  intro x hx
  rcases List.mem_cons.1 hx with rfl | hx
  . decide
  . rcases List.mem_append.1 hx with hx | hx
    . obtain ⟨-, rfl⟩ := List.mem_replicate.1 hx; decide
    . obtain ⟨j, -, rfl⟩ := List.mem_map.1 hx; omega
theorem V9 (a b : List Int) (j : Nat) : Qb (a ++ b) j = if j < a.length then Qb a j else Qb b (j - a.length) := by
  unfold Qb
  by_cases h : j < a.length
  . rw [if_pos h, List.getElem?_append_left h]
  . rw [if_neg h, List.getElem?_append_right (by omega)]
theorem F6 (n j : Nat) : Qb (List.replicate n 0) j = 0 := by
  unfold Qb
  rw [List.getElem?_replicate]
  split <;> rfl
theorem QaC (k n j : Nat) (h : 9 <= k) : Qb (Jg k n) j = if j = 0 then 128 else if k <= j then 0 else if k <= j + 8 then (n : Int) * 8 / 2 ^ (8 * (k - 1 - j)) % 256 else 0 := by
  unfold Jg
  cases j with
  | zero => rfl
  | succ j =>
    rw [Zb, V9, List.length_replicate, if_neg (by omega : ¬ j + 1 = 0)]
    by_cases h1 : j < k - 9
    . rw [if_pos h1, F6, if_neg (by omega), if_neg (by omega)]
    . rw [if_neg h1]
      by_cases h2 : k <= j + 1
      . rw [if_pos h2]
        have : ¬ j - (k - 9) < (XK n).length := by rw [Yi]; omega
        unfold Qb
        rw [List.getElem?_eq_none (by omega)]; rfl
      . rw [if_neg h2, if_pos (by omega), FG n _ (by omega), show 7 - (j - (k - 9)) = k - 1 - (j + 1) by omega]
theorem Dr (p : List Int) (tot : Int) (j : Nat) (hj : j < p.length) : ∀ k, k <= p.length -> Qb (Vc p tot k) j = if p.length <= j + k then tot * 8 / 2 ^ (8 * (p.length - 1 - j)) % 256 else Qb p j
  | 0, _ => by rw [if_neg (by omega)]; rfl
  | k + 1, h => by
    show Qb ((Vc p tot k).set (p.length - 1 - k) _) j = _
    rw [Zv _ _ _ _ (by rw [Y0]; omega), Dr p tot j hj k (by omega)]
    by_cases e : j = p.length - 1 - k
    . rw [if_pos e, if_pos (by omega), show p.length - 1 - j = k by omega]
    . rw [if_neg e]
      by_cases h2 : p.length <= j + k
      . rw [if_pos h2, if_pos (by omega)]
      . rw [if_neg h2, if_neg (by omega)]
theorem Qfd (hl : List Int) (n : Nat) (hn : n < 64) (hh : hl.length = n) (j : Nat) : Qb (Vx hl n) j = if j = n then 128 else if j < n then Qb hl j else 0 := by
  have hp := Uu n hn
  unfold Vx
  rw [Zv _ _ _ _ (by simp [hh]; omega)]
  by_cases e : j = n
  . rw [if_pos e, if_pos e]
  . rw [if_neg e, if_neg e, V9, List.take_of_length_le (by omega), hh]
    by_cases h : j < n
    . rw [if_pos h, if_pos h]
    . rw [if_neg h, if_neg h, F6]
theorem KU (n : Nat) : QM n = n / 64 * 64 + QM (n % 64) := by unfold QM; omega
theorem QcK (D : List Int) : Vc (Vx (XX D) (D.length % 64)) (D.length : Int) 8 = XX D ++ Jg (QM D.length - D.length) D.length := by
  have hm : D.length % 64 < 64 := Nat.mod_lt _ (by decide)
  have hh := Kv D
  have hp := Uu (D.length % 64) hm
  have hs := KU D.length
  have hl := Fs (XX D) (D.length % 64) hm hh
  have hk : QM D.length - D.length = QM (D.length % 64) - D.length % 64 := by omega
  have hb := Qfd (XX D) (D.length % 64) hm hh
  rw [hk]
  clear hs hk
  generalize QM (D.length % 64) = N at *
  generalize D.length % 64 = n at *
  refine QZ ?_ fun j hj => ?_
  . rw [Y0, List.length_append, JN _ _ (by omega), hh, hl]; omega
  . rw [Y0, hl] at hj
    rw [Dr _ _ _ (by rw [hl]; exact hj) 8 (by rw [hl]; omega), hl, hb j, V9, hh, QaC _ _ _ (by omega)]
    by_cases h1 : j < n
    . rw [if_neg (by omega : ¬ N <= j + 8), if_neg (by omega : ¬ j = n), if_pos h1, if_pos h1]
    . rw [if_neg h1, if_neg h1]
      by_cases h2 : j = n
      . rw [if_neg (by omega : ¬ N <= j + 8), if_pos h2, if_pos (by omega : j - n = 0)]
      . rw [if_neg h2, if_neg (by omega : ¬ j - n = 0), if_neg (by omega : ¬ N - n <= j - n)]
        by_cases h3 : N <= j + 8
        . rw [if_pos h3, if_pos (by omega), show N - n - 1 - (j - n) = N - 1 - j by omega]
        . rw [if_neg h3, if_neg (by omega)]
theorem JI (st Z : List Int) (q : Nat) : ∀ j, QU st Z (q + j) = QU (QU st Z q) (Z.drop (q * 64)) j
  | 0 => rfl
  | j + 1 => by
    show Xb (QU st Z (q + j)) ((Z.drop ((q + j) * 64)).take 64) = Xb (QU (QU st Z q) (Z.drop (q * 64)) j) (((Z.drop (q * 64)).drop (j * 64)).take 64)
    rw [JI st Z q j, List.drop_drop, show (q + j) * 64 = q * 64 + j * 64 by omega]
/-- The bytes with what is Za. -/
def Xu (D : List Int) : List Int := D ++ Jg (QM D.length - D.length) D.length
theorem QcZ (D : List Int) : (Xu D).length = QM D.length := by
  have : D.length + 8 < QM D.length := by unfold QM; omega
  rw [Xu, List.length_append, JN _ _ (by omega)]
  omega
theorem Qck (D : List Int) : Yh D = Xl (QU Q3 (Xu D) (QM D.length / 64)) := by
  have hs := KU D.length
  have hp := Uu (D.length % 64) (Nat.mod_lt _ (by decide))
  have e : QM D.length / 64 = D.length / 64 + QM (D.length % 64) / 64 := by omega
  unfold Yh
  rw [QcK, e, JI]
  unfold Xu
  rw [Vg _ _ _ _ (Nat.div_mul_le_self _ _), List.drop_append_of_le_length (Nat.div_mul_le_self _ _)]
  rfl
theorem Qfc (hl : List Int) (n : Nat) (hn : n < 128) (hh : hl.length = n) (j : Nat) : Qb (Vw hl n) j = if j = n then 128 else if j < n then Qb hl j else 0 := by
  have hp := Ut n hn
  unfold Vw
  rw [Zv _ _ _ _ (by simp [hh]; omega)]
  by_cases e : j = n
  . rw [if_pos e, if_pos e]
  . rw [if_neg e, if_neg e, V9, List.take_of_length_le (by omega), hh]
    by_cases h : j < n
    . rw [if_pos h, if_pos h]
    . rw [if_neg h, if_neg h, F6]
theorem KT (n : Nat) : QL n = n / 128 * 128 + QL (n % 128) := by unfold QL; omega
theorem QcJ (D : List Int) : Vc (Vw (XW D) (D.length % 128)) (D.length : Int) 8 = XW D ++ Jg (QL D.length - D.length) D.length := by
  have hm : D.length % 128 < 128 := Nat.mod_lt _ (by decide)
  have hh := Ku D
  have hp := Ut (D.length % 128) hm
  have hs := KT D.length
  have hl := Fq (XW D) (D.length % 128) hm hh
  have hk : QL D.length - D.length = QL (D.length % 128) - D.length % 128 := by omega
  have hb := Qfc (XW D) (D.length % 128) hm hh
  rw [hk]
  clear hs hk
  generalize QL (D.length % 128) = N at *
  generalize D.length % 128 = n at *
  refine QZ ?_ fun j hj => ?_
  . rw [Y0, List.length_append, JN _ _ (by omega), hh, hl]; omega
  . rw [Y0, hl] at hj
    rw [Dr _ _ _ (by rw [hl]; exact hj) 8 (by rw [hl]; omega), hl, hb j, V9, hh, QaC _ _ _ (by omega)]
    by_cases h1 : j < n
    . rw [if_neg (by omega : ¬ N <= j + 8), if_neg (by omega : ¬ j = n), if_pos h1, if_pos h1]
    . rw [if_neg h1, if_neg h1]
      by_cases h2 : j = n
      . rw [if_neg (by omega : ¬ N <= j + 8), if_pos h2, if_pos (by omega : j - n = 0)]
      . rw [if_neg h2, if_neg (by omega : ¬ j - n = 0), if_neg (by omega : ¬ N - n <= j - n)]
        by_cases h3 : N <= j + 8
        . rw [if_pos h3, if_pos (by omega), show N - n - 1 - (j - n) = N - 1 - j by omega]
        . rw [if_neg h3, if_neg (by omega)]
theorem JH (st Z : List Int) (q : Nat) : ∀ j, QT st Z (q + j) = QT (QT st Z q) (Z.drop (q * 128)) j
  | 0 => rfl
  | j + 1 => by
    show Xa (QT st Z (q + j)) ((Z.drop ((q + j) * 128)).take 128) = Xa (QT (QT st Z q) (Z.drop (q * 128)) j) (((Z.drop (q * 128)).drop (j * 128)).take 128)
    rw [JH st Z q j, List.drop_drop, show (q + j) * 128 = q * 128 + j * 128 by omega]
/-- The bytes with what is Za. -/
def Xt (D : List Int) : List Int := D ++ Jg (QL D.length - D.length) D.length
theorem QcY (D : List Int) : (Xt D).length = QL D.length := by
  have : D.length + 16 < QL D.length := by unfold QL; omega
  rw [Xt, List.length_append, JN _ _ (by omega)]
  omega
theorem Qcj (D : List Int) : Xw D = Xi (QT Q2 (Xt D) (QL D.length / 128)) := by
  have hs := KT D.length
  have hp := Ut (D.length % 128) (Nat.mod_lt _ (by decide))
  have e : QL D.length / 128 = D.length / 128 + QL (D.length % 128) / 128 := by omega
  unfold Xw
  rw [QcJ, e, JH]
  unfold Xt
  rw [Ve _ _ _ _ (Nat.div_mul_le_self _ _), List.drop_append_of_le_length (Nat.div_mul_le_self _ _)]
  rfl
end Go.Proofs.YtbiboamaigedjaaGreatDoor
