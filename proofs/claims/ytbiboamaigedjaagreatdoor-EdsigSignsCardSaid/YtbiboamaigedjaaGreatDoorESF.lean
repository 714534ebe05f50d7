/- The reference of sha: cut, turn, mix. Straight code on frames, further: memory, calls, loops. No program stands here. Plain words: the words of a bloc -/
import Derived.Laws.MakeOwn
import Derived.Deep.AppendLies
import Derived.Deep.RegionLaw
import Derived.Test.YtbiboamaigedjaaGreatDoorRows
import Derived.Lib.LaidTab
import Derived.ChangeSame
import Derived.Stop.LaidErr
import Derived.MakeChecks
import Derived.Test.YtbiboamaigedjaaGreatDoorESE
namespace Go.Proofs.YtbiboamaigedjaaGreatDoor
open Go.RowKit
set_option linter.unusedVariables false
set_option linter.unusedSimpArgs false
set_option maxRecDepth 8000
set_option maxHeartbeats 2000000

theorem Zx (x : Int) (w : World) (hx : Xh x) : Calls Tryz.prog 105 #[.int .u64 x, .int .i64 32] w fun e w' => e = .returned (.int .u64 (x % 4294967296)) /\ w' = w := by
  obtain ⟨h0, h1⟩ := hx
  go_enter Tryz.func105, Tryz.ntmps105
  go_wp2
  go_ret
  exact ⟨rfl, rfl⟩
theorem Zw (x : Int) (w : World) (hx : Xh x) : Calls Tryz.prog 105 #[.int .u64 x, .int .i64 64] w fun e w' => e = .returned (.int .u64 x) /\ w' = w := by
  obtain ⟨h0, h1⟩ := hx
  go_enter Tryz.func105, Tryz.ntmps105
  go_wp2
  go_ret
  exact ⟨rfl, rfl⟩
theorem Qd7 {x : Int} (h : XC x) : Xh x := by unfold XC at h; unfold Xh; omega
def GM (x a b c : Int) (sh : Bool) : Int := bits BinOp.xor .u32 (bits BinOp.xor .u32 (Xp x (32 - a)) (Xp x (32 - b))) (if sh then x / 2 ^ c.toNat else Xp x (32 - c))
def GK (x a b c : Int) (sh : Bool) : Int := bits BinOp.xor .u64 (bits BinOp.xor .u64 (X6 x (64 - a)) (X6 x (64 - b))) (if sh then x / 2 ^ c.toNat else X6 x (64 - c))
theorem Un (x s : Int) : XC (Xp x s) := Zc _ _ _
theorem Um (x s : Int) : Xh (X6 x s) := GX _ _ _
theorem Qgi {x : Int} (n : Nat) (h : Xh x) : Xh (x / 2 ^ n) := ⟨Int.ediv_nonneg h.1 (by rw [Ur]; exact Int.natCast_nonneg _), Int.lt_of_le_of_lt (Int.ediv_le_self _ h.1) h.2⟩
theorem QaM {x : Int} (n : Nat) (h : XC x) : XC (x / 2 ^ n) := ⟨Int.ediv_nonneg h.1 (by rw [Ur]; exact Int.natCast_nonneg _), Int.lt_of_le_of_lt (Int.ediv_le_self _ h.1) h.2⟩
theorem ZO (x n : Int) (w : World) (hx : XC x) (h0 : 0 < n) (h1 : n < 32) : Calls Tryz.prog 129 #[.int .u64 x, .int .i64 n, .int .i64 32] w fun e w' => e = .returned (.int .u64 (Xp x (32 - n))) /\ w' = w := by
  have hq := QeP x n hx h0 h1
  rw [<- Yf] at hq
  have hc := fun W => Zx (bits BinOp.or .u64 (x / 2 ^ n.toNat) (IntKind.u64.wrap (x * 2 ^ (32 - n).toNat))) W (GX _ _ _)
  simp only [hq] at hc
  replace hc := Lib.hid hc
  clear hq
  obtain ⟨x0, x1⟩ := hx
  go_enter Tryz.func129, Tryz.ntmps129
  go_wp2_with (first
    | (go_at_call 105; (with_reducible refine (hc.out _).mono ?_); rintro e w1 ⟨rfl, rfl⟩))
  go_ret
  exact ⟨rfl, rfl⟩
set_option maxHeartbeats 1000000 in
theorem Up (x a b c : Int) (w : World) (hx : XC x) (ha : 0 < a /\ a < 32) (hb : 0 < b /\ b < 32) (hc : 0 < c /\ c < 32) : Calls Tryz.prog 106 #[.int .u64 x, XN .i64 [a, b, c], .bool false, .int .i64 32] w fun e w' => e = .returned (.int .u64 (GM x a b c false)) /\ Below w.heap.size w w' := by
  have hA := fun W => ZO x a W hx ha.1 ha.2
  have hB := fun W => ZO x b W hx hb.1 hb.2
  have hC := fun W => ZO x c W hx hc.1 hc.2
  have mx : GM x a b c false = bits BinOp.xor .u32 (bits BinOp.xor .u32 (Xp x (32 - a)) (Xp x (32 - b))) (Xp x (32 - c)) := rfl
  have i1 := Un x (32 - a)
  have i2 := Un x (32 - b)
  have i3 := Un x (32 - c)
  have i4 := QaM c.toNat hx
  have j1 := J9 i1 i2
  have j2 := J9 (Zc BinOp.xor (Xp x (32 - a)) (Xp x (32 - b))) i3
  have j3 : Xh (bits BinOp.xor .u32 (Xp x (32 - a)) (Xp x (32 - b))) := Qd7 (Zc _ _ _)
  generalize GM x a b c false = m at *
  generalize Xp x (32 - a) = ra at *
  generalize Xp x (32 - b) = rb at *
  generalize Xp x (32 - c) = rc at *
  replace hA := Lib.hid hA
  replace hB := Lib.hid hB
  replace hC := Lib.hid hC
  obtain ⟨x0, x1⟩ := hx
  obtain ⟨a0, a1⟩ := ha
  obtain ⟨b0, b1⟩ := hb
  obtain ⟨c0, c1⟩ := hc
  have mx' := Lib.hid mx
  clear mx
  have mx2 : RowKit.Hid (bits BinOp.xor .u64 (bits BinOp.xor .u64 ra rb) (rc) = m) := Lib.hid (by rw [j1, j2, mx'.out])
  clear j1 j2 j3
  clear i1 i2 i3 i4
  go_enter Tryz.func106, Tryz.ntmps106
  go_wp2_with (first
    | ((with_reducible (refine YF 5 ?_; refine VT rfl 122 _ rfl .i64 [a, b, c] rfl ?_)); (intro w1 A1 s1 b1; have ka : w1.cell? ⟨w.heap.size, 0, none⟩ = some (.int .i64 a) := A1.cell (k := 0) (by simp); have kb : w1.cell? ⟨w.heap.size, 1, none⟩ = some (.int .i64 b) := A1.cell (k := 1) (by simp); have kc : w1.cell? ⟨w.heap.size, 2, none⟩ = some (.int .i64 c) := A1.cell (k := 2) (by simp)))
    | (go_at_call 129; (with_reducible refine (hC.out _).mono ?_); rintro e w2 ⟨rfl, rfl⟩))
  go_quiet ((go_at_call 129; first | (with_reducible exact Calls.quiet_of_same (hA.out _)) | (with_reducible exact Calls.quiet_of_same (hB.out _))))
  go_wp2
  go_ret
  exact ⟨congrArg (fun t => Ending.returned (.int .u64 t)) mx2.out, XR b1 _⟩
set_option maxHeartbeats 1000000 in
theorem U6 (x a b c : Int) (w : World) (hx : XC x) (ha : 0 < a /\ a < 32) (hb : 0 < b /\ b < 32) (hc : 0 < c /\ c < 32) : Calls Tryz.prog 106 #[.int .u64 x, XN .i64 [a, b, c], .bool true, .int .i64 32] w fun e w' => e = .returned (.int .u64 (GM x a b c true)) /\ Below w.heap.size w w' := by
  have hA := fun W => ZO x a W hx ha.1 ha.2
  have hB := fun W => ZO x b W hx hb.1 hb.2
  have hC := fun W => ZO x c W hx hc.1 hc.2
  have mx : GM x a b c true = bits BinOp.xor .u32 (bits BinOp.xor .u32 (Xp x (32 - a)) (Xp x (32 - b))) (x / 2 ^ c.toNat) := rfl
  have i1 := Un x (32 - a)
  have i2 := Un x (32 - b)
  have i3 := Un x (32 - c)
  have i4 := QaM c.toNat hx
  have j1 := J9 i1 i2
  have j2 := J9 (Zc BinOp.xor (Xp x (32 - a)) (Xp x (32 - b))) i4
  have j3 : Xh (bits BinOp.xor .u32 (Xp x (32 - a)) (Xp x (32 - b))) := Qd7 (Zc _ _ _)
  generalize GM x a b c true = m at *
  generalize Xp x (32 - a) = ra at *
  generalize Xp x (32 - b) = rb at *
  generalize Xp x (32 - c) = rc at *
  replace hA := Lib.hid hA
  replace hB := Lib.hid hB
  replace hC := Lib.hid hC
  obtain ⟨x0, x1⟩ := hx
  obtain ⟨a0, a1⟩ := ha
  obtain ⟨b0, b1⟩ := hb
  obtain ⟨c0, c1⟩ := hc
  have mx' := Lib.hid mx
  clear mx
  have mx2 : RowKit.Hid (bits BinOp.xor .u64 (bits BinOp.xor .u64 ra rb) (x / 2 ^ c.toNat) = m) := Lib.hid (by rw [j1, j2, mx'.out])
  clear j1 j2 j3
  clear i1 i2 i3 i4
  go_enter Tryz.func106, Tryz.ntmps106
  go_wp2_with (first
    | ((with_reducible (refine YF 5 ?_; refine VT rfl 122 _ rfl .i64 [a, b, c] rfl ?_)); (intro w1 A1 s1 b1; have ka : w1.cell? ⟨w.heap.size, 0, none⟩ = some (.int .i64 a) := A1.cell (k := 0) (by simp); have kb : w1.cell? ⟨w.heap.size, 1, none⟩ = some (.int .i64 b) := A1.cell (k := 1) (by simp); have kc : w1.cell? ⟨w.heap.size, 2, none⟩ = some (.int .i64 c) := A1.cell (k := 2) (by simp)))
    | (go_at_call 129; (with_reducible refine (hC.out _).mono ?_); rintro e w2 ⟨rfl, rfl⟩))
  go_quiet ((go_at_call 129; first | (with_reducible exact Calls.quiet_of_same (hA.out _)) | (with_reducible exact Calls.quiet_of_same (hB.out _))))
  go_wp2
  go_ret
  exact ⟨congrArg (fun t => Ending.returned (.int .u64 t)) mx2.out, XR b1 _⟩
theorem ZN (x n : Int) (w : World) (hx : Xh x) (h0 : 0 < n) (h1 : n < 64) : Calls Tryz.prog 129 #[.int .u64 x, .int .i64 n, .int .i64 64] w fun e w' => e = .returned (.int .u64 (X6 x (64 - n))) /\ w' = w := by
  have hq := QeO x n hx h0 h1
  rw [<- Yf] at hq
  have hc := fun W => Zw (bits BinOp.or .u64 (x / 2 ^ n.toNat) (IntKind.u64.wrap (x * 2 ^ (64 - n).toNat))) W (GX _ _ _)
  have hq2 := Lib.hid hq
  replace hc := Lib.hid hc
  clear hq
  obtain ⟨x0, x1⟩ := hx
  go_enter Tryz.func129, Tryz.ntmps129
  go_wp2_with (first
    | (go_at_call 105; (with_reducible refine (hc.out _).mono ?_); rintro e w1 ⟨rfl, rfl⟩))
  go_ret
  exact ⟨congrArg (fun t => Ending.returned (.int .u64 t)) hq2.out, rfl⟩
set_option maxHeartbeats 1000000 in
theorem Uo (x a b c : Int) (w : World) (hx : Xh x) (ha : 0 < a /\ a < 64) (hb : 0 < b /\ b < 64) (hc : 0 < c /\ c < 64) : Calls Tryz.prog 106 #[.int .u64 x, XN .i64 [a, b, c], .bool false, .int .i64 64] w fun e w' => e = .returned (.int .u64 (GK x a b c false)) /\ Below w.heap.size w w' := by
  have hA := fun W => ZN x a W hx ha.1 ha.2
  have hB := fun W => ZN x b W hx hb.1 hb.2
  have hC := fun W => ZN x c W hx hc.1 hc.2
  have mx : GK x a b c false = bits BinOp.xor .u64 (bits BinOp.xor .u64 (X6 x (64 - a)) (X6 x (64 - b))) (X6 x (64 - c)) := rfl
  have i1 := Um x (64 - a)
  have i2 := Um x (64 - b)
  have i3 := Um x (64 - c)
  have i4 := Qgi c.toNat hx
  generalize GK x a b c false = m at *
  generalize X6 x (64 - a) = ra at *
  generalize X6 x (64 - b) = rb at *
  generalize X6 x (64 - c) = rc at *
  replace hA := Lib.hid hA
  replace hB := Lib.hid hB
  replace hC := Lib.hid hC
  obtain ⟨x0, x1⟩ := hx
  obtain ⟨a0, a1⟩ := ha
  obtain ⟨b0, b1⟩ := hb
  obtain ⟨c0, c1⟩ := hc
  have mx' := Lib.hid mx
  clear mx
  have mx2 : RowKit.Hid (bits BinOp.xor .u64 (bits BinOp.xor .u64 ra rb) (rc) = m) := Lib.hid (by rw [mx'.out])
  clear i1 i2 i3 i4
  go_enter Tryz.func106, Tryz.ntmps106
  go_wp2_with (first
    | ((with_reducible (refine YF 5 ?_; refine VT rfl 122 _ rfl .i64 [a, b, c] rfl ?_)); (intro w1 A1 s1 b1; have ka : w1.cell? ⟨w.heap.size, 0, none⟩ = some (.int .i64 a) := A1.cell (k := 0) (by simp); have kb : w1.cell? ⟨w.heap.size, 1, none⟩ = some (.int .i64 b) := A1.cell (k := 1) (by simp); have kc : w1.cell? ⟨w.heap.size, 2, none⟩ = some (.int .i64 c) := A1.cell (k := 2) (by simp)))
    | (go_at_call 129; (with_reducible refine (hC.out _).mono ?_); rintro e w2 ⟨rfl, rfl⟩))
  go_quiet ((go_at_call 129; first | (with_reducible exact Calls.quiet_of_same (hA.out _)) | (with_reducible exact Calls.quiet_of_same (hB.out _))))
  go_wp2
  go_ret
  exact ⟨congrArg (fun t => Ending.returned (.int .u64 t)) mx2.out, XR b1 _⟩
set_option maxHeartbeats 1000000 in
theorem U5 (x a b c : Int) (w : World) (hx : Xh x) (ha : 0 < a /\ a < 64) (hb : 0 < b /\ b < 64) (hc : 0 < c /\ c < 64) : Calls Tryz.prog 106 #[.int .u64 x, XN .i64 [a, b, c], .bool true, .int .i64 64] w fun e w' => e = .returned (.int .u64 (GK x a b c true)) /\ Below w.heap.size w w' := by
  have hA := fun W => ZN x a W hx ha.1 ha.2
  have hB := fun W => ZN x b W hx hb.1 hb.2
  have hC := fun W => ZN x c W hx hc.1 hc.2
  have mx : GK x a b c true = bits BinOp.xor .u64 (bits BinOp.xor .u64 (X6 x (64 - a)) (X6 x (64 - b))) (x / 2 ^ c.toNat) := rfl
  have i1 := Um x (64 - a)
  have i2 := Um x (64 - b)
  have i3 := Um x (64 - c)
  have i4 := Qgi c.toNat hx
  generalize GK x a b c true = m at *
  generalize X6 x (64 - a) = ra at *
  generalize X6 x (64 - b) = rb at *
  generalize X6 x (64 - c) = rc at *
  replace hA := Lib.hid hA
  replace hB := Lib.hid hB
  replace hC := Lib.hid hC
  obtain ⟨x0, x1⟩ := hx
  obtain ⟨a0, a1⟩ := ha
  obtain ⟨b0, b1⟩ := hb
  obtain ⟨c0, c1⟩ := hc
  have mx' := Lib.hid mx
  clear mx
  have mx2 : RowKit.Hid (bits BinOp.xor .u64 (bits BinOp.xor .u64 ra rb) (x / 2 ^ c.toNat) = m) := Lib.hid (by rw [mx'.out])
  clear i1 i2 i3 i4
  go_enter Tryz.func106, Tryz.ntmps106
  go_wp2_with (first
    | ((with_reducible (refine YF 5 ?_; refine VT rfl 122 _ rfl .i64 [a, b, c] rfl ?_)); (intro w1 A1 s1 b1; have ka : w1.cell? ⟨w.heap.size, 0, none⟩ = some (.int .i64 a) := A1.cell (k := 0) (by simp); have kb : w1.cell? ⟨w.heap.size, 1, none⟩ = some (.int .i64 b) := A1.cell (k := 1) (by simp); have kc : w1.cell? ⟨w.heap.size, 2, none⟩ = some (.int .i64 c) := A1.cell (k := 2) (by simp)))
    | (go_at_call 129; (with_reducible refine (hC.out _).mono ?_); rintro e w2 ⟨rfl, rfl⟩))
  go_quiet ((go_at_call 129; first | (with_reducible exact Calls.quiet_of_same (hA.out _)) | (with_reducible exact Calls.quiet_of_same (hB.out _))))
  go_wp2
  go_ret
  exact ⟨congrArg (fun t => Ending.returned (.int .u64 t)) mx2.out, XR b1 _⟩
section
variable {P : Program} {ops : Array Oper} {o : Oper} {a : Act} {w : World} {R : Value -> World -> Prop} {rest : List Oper} {Q : Exit -> Act -> World -> Prop} {n : Nat}
end
/-- What the tables of the reference hold. -/
structure Qag (w : World) : Prop where
  be : ∀ k, k < 8 -> w.cell? ⟨2, k, none⟩ = some (.int .u64 (Qb Xc k))
  ro : ∀ k, k < 80 -> w.cell? ⟨3, k, none⟩ = some (.int .u64 (Qb Q7 k))
theorem Qag.lt {w : World} (h : Qag w) : 2 < w.heap.size /\ 3 < w.heap.size := ⟨World.block_lt_of_cell? w _ (h.be 0 (by decide)), World.block_lt_of_cell? w _ (h.ro 0 (by decide))⟩
theorem Qag.below {w w' : World} (h : Qag w) (hb : Below w.heap.size w w') : Qag w' :=
  ⟨fun k hk => by rw [hb.cell h.lt.1]; exact h.be k hk, fun k hk => by rw [hb.cell h.lt.2]; exact h.ro k hk⟩
theorem Qt.unXor {P : Program} {ops : Array Oper} {o : Oper} {a : Act} {w : World} {R : Value -> World -> Prop} (hw : Region.wanted o (yielded ops a.tmps) = true) {t : TypeId} {x : Operand} (ho : o.op = .unOp .xor t x) {m : Int} (hx : a.eval x = .int .u64 m) (hR : R (.int .u64 (X0 m)) w) : Qt P ops o a w R :=
  Qt.pure hw _ (by unfold execOp; simp only [ho, hx]; simp [Op.unary, Op.intBits, X0, bits, IntKind.signed]) hR
/-- The words of a block behind so many bytes. -/
def XI (zs : List Int) (i : Nat) : List Int := (List.range 80).map fun j => Gx (((zs.drop (j * 4)).take 4).take (i - j * 4))
theorem ZA (zs : List Int) (i : Nat) : (XI zs i).length = 80 := by simp [XI]
theorem Vj (zs : List Int) (i j : Nat) (hj : j < 80) : Qb (XI zs i) j = Gx (((zs.drop (j * 4)).take 4).take (i - j * 4)) := by simp [XI, Qb, hj]
theorem Qa8 (zs : List Int) : XI zs 0 = List.replicate 80 0 := by
  refine QZ (by simp [XI]) fun j hj => ?_
  rw [ZA] at hj
  rw [Vj _ _ _ hj, Nat.zero_sub, List.take_zero, V8]
  rfl
theorem Qa9 (zs : List Int) (hl : zs.length = 64) (i : Nat) (hi : i < 64) : (XI zs i).set (i / 4) (Qb (XI zs i) (i / 4) * 256 + Qb zs i) = XI zs (i + 1) := by
  have hq : i / 4 < 80 := by omega
  refine QZ (by simp [XI]) fun j hj => ?_
  rw [List.length_set, ZA] at hj
  rw [Zv _ _ _ _ (by rw [ZA]; exact hq), Vj _ (i + 1) j hj]
  by_cases e : j = i / 4
  . subst e
    rw [if_pos rfl, Vj _ _ _ hq, show i + 1 - i / 4 * 4 = (i - i / 4 * 4) + 1 by omega, ZM _ (i - i / 4 * 4) (by simp; omega), JG]
    congr 1
    unfold Qb
    rw [List.getElem?_take, if_pos (by omega), List.getElem?_drop, show i / 4 * 4 + (i - i / 4 * 4) = i by omega]
  . rw [if_neg e, Vj _ _ _ hj]
    by_cases h : j < i / 4
    . rw [List.take_of_length_le (l := (zs.drop (j * 4)).take 4) (i := i - j * 4) (by simp; omega), List.take_of_length_le (l := (zs.drop (j * 4)).take 4) (i := i + 1 - j * 4) (by simp; omega)]
    . rw [show i - j * 4 = 0 by omega, show i + 1 - j * 4 = 0 by omega]
theorem QcI (zs : List Int) (hl : zs.length = 64) : XI zs 64 = Qg zs 0 := by
  refine QZ (by rw [ZA, XA]) fun j hj => ?_
  rw [ZA] at hj
  rw [Vj _ _ _ hj]
  unfold Qg
  rw [V9]
  by_cases h : j < 16
  . rw [if_pos (by simpa using h), List.take_of_length_le (by simp; omega)]
    simp [Qb, h, Kc]
  . rw [if_neg (by simpa using h), V8, List.drop_eq_nil_of_le (by omega)]
    simp [Gx]
theorem Qe8 {zs : List Int} (hb : Qh zs) (hl : zs.length = 64) (i : Nat) (hi : i < 64) : 0 <= Qb (XI zs i) (i / 4) /\ Qb (XI zs i) (i / 4) < 16777216 := by
  have hq : i / 4 < 80 := by omega
  rw [Vj _ _ _ hq]
  have h := Kz (i - i / 4 * 4) (((zs.drop (i / 4 * 4)).take 4).take (i - i / 4 * 4)) (by simp; omega) (fun x hx => hb x (List.mem_of_mem_drop (List.mem_of_mem_take (List.mem_of_mem_take hx))))
  have h2 : (256 : Int) ^ (i - i / 4 * 4) <= 16777216 := by
    have h3 : i - i / 4 * 4 <= 3 := by omega
    have h4 : (256 : Nat) ^ (i - i / 4 * 4) <= 256 ^ 3 := Nat.pow_le_pow_right (by decide) h3
    have h5 : ((256 ^ (i - i / 4 * 4) : Nat) : Int) <= ((256 ^ 3 : Nat) : Int) := by exact_mod_cast h4
    rw [Int.natCast_pow, Int.natCast_pow] at h5
    simpa using h5
  omega
/-- The words of a block behind so many bytes. -/
def XH (zs : List Int) (i : Nat) : List Int := (List.range 80).map fun j => Gx (((zs.drop (j * 8)).take 8).take (i - j * 8))
theorem Zz (zs : List Int) (i : Nat) : (XH zs i).length = 80 := by simp [XH]
theorem Vi (zs : List Int) (i j : Nat) (hj : j < 80) : Qb (XH zs i) j = Gx (((zs.drop (j * 8)).take 8).take (i - j * 8)) := by simp [XH, Qb, hj]
theorem Qa6 (zs : List Int) : XH zs 0 = List.replicate 80 0 := by
  refine QZ (by simp [XH]) fun j hj => ?_
  rw [Zz] at hj
  rw [Vi _ _ _ hj, Nat.zero_sub, List.take_zero, V8]
  rfl
theorem Qa7 (zs : List Int) (hl : zs.length = 128) (i : Nat) (hi : i < 128) : (XH zs i).set (i / 8) (Qb (XH zs i) (i / 8) * 256 + Qb zs i) = XH zs (i + 1) := by
  have hq : i / 8 < 80 := by omega
  refine QZ (by simp [XH]) fun j hj => ?_
  rw [List.length_set, Zz] at hj
  rw [Zv _ _ _ _ (by rw [Zz]; exact hq), Vi _ (i + 1) j hj]
  by_cases e : j = i / 8
  . subst e
    rw [if_pos rfl, Vi _ _ _ hq, show i + 1 - i / 8 * 8 = (i - i / 8 * 8) + 1 by omega, ZM _ (i - i / 8 * 8) (by simp; omega), JG]
    congr 1
    unfold Qb
    rw [List.getElem?_take, if_pos (by omega), List.getElem?_drop, show i / 8 * 8 + (i - i / 8 * 8) = i by omega]
  . rw [if_neg e, Vi _ _ _ hj]
    by_cases h : j < i / 8
    . rw [List.take_of_length_le (l := (zs.drop (j * 8)).take 8) (i := i - j * 8) (by simp; omega), List.take_of_length_le (l := (zs.drop (j * 8)).take 8) (i := i + 1 - j * 8) (by simp; omega)]
    . rw [show i - j * 8 = 0 by omega, show i + 1 - j * 8 = 0 by omega]
theorem QcH (zs : List Int) (hl : zs.length = 128) : XH zs 128 = Qf zs 0 := by
  refine QZ (by rw [Zz, Xz]) fun j hj => ?_
  rw [Zz] at hj
  rw [Vi _ _ _ hj]
  unfold Qf
  rw [V9]
  by_cases h : j < 16
  . rw [if_pos (by simpa using h), List.take_of_length_le (by simp; omega)]
    simp [Qb, h, Kb]
  . rw [if_neg (by simpa using h), V8, List.drop_eq_nil_of_le (by omega)]
    simp [Gx]
theorem Qe7 {zs : List Int} (hb : Qh zs) (hl : zs.length = 128) (i : Nat) (hi : i < 128) : 0 <= Qb (XH zs i) (i / 8) /\ Qb (XH zs i) (i / 8) < 72057594037927936 := by
  have hq : i / 8 < 80 := by omega
  rw [Vi _ _ _ hq]
  have h := Kz (i - i / 8 * 8) (((zs.drop (i / 8 * 8)).take 8).take (i - i / 8 * 8)) (by simp; omega) (fun x hx => hb x (List.mem_of_mem_drop (List.mem_of_mem_take (List.mem_of_mem_take hx))))
  have h2 : (256 : Int) ^ (i - i / 8 * 8) <= 72057594037927936 := by
    have h3 : i - i / 8 * 8 <= 7 := by omega
    have h4 : (256 : Nat) ^ (i - i / 8 * 8) <= 256 ^ 7 := Nat.pow_le_pow_right (by decide) h3
    have h5 : ((256 ^ (i - i / 8 * 8) : Nat) : Int) <= ((256 ^ 7 : Nat) : Int) := by exact_mod_cast h4
    rw [Int.natCast_pow, Int.natCast_pow] at h5
    simpa using h5
  omega

theorem KM (n wd : Int) (w : World) (hn : -9223372036854775808 <= n /\ n <= 9223372036854775807) (hw : -9223372036854775808 <= wd /\ wd <= 9223372036854775807) :
    Calls Tryz.prog 104 #[.int .i64 n, .int .i64 wd] w fun e w' => e = .returned (.int .i64 (Za n wd)) /\ w' = w := by
  by_cases h : n < 0 \/ 1099511627776 < n \/ (wd ≠ 32 /\ wd ≠ 64)
  . rw [show Za n wd = 0 from if_pos h]
    by_cases h1 : n < 0
    . have d1 : decide (n < 0) = true := decide_eq_true h1
      go_enter Tryz.func104, Tryz.ntmps104
      go_wp2
      go_ret
      exact ⟨rfl, rfl⟩
    . by_cases h2 : 1099511627776 < n
      . go_enter Tryz.func104, Tryz.ntmps104
        go_wp2
        go_ret
        exact ⟨rfl, rfl⟩
      . have h3 : wd ≠ 32 /\ wd ≠ 64 := by omega
        obtain ⟨h4, h5⟩ := h3
        have b4 : (wd != 32) = true := by simpa using h4
        have b5 : (wd != 64) = true := by simpa using h5
        clear h h4 h5
        go_enter Tryz.func104, Tryz.ntmps104
        go_wp2
        go_ret
        exact ⟨rfl, rfl⟩
  . have h6 : wd = 32 \/ wd = 64 := by omega
    have h7 : ¬ n < 0 := by omega
    have h8 : ¬ 1099511627776 < n := by omega
    rw [show Za n wd = (n + 1 + wd / 4 + 2 * wd - 1) / (2 * wd) * (2 * wd) from if_neg h]
    clear h
    rcases h6 with rfl | rfl
    all_goals
      go_enter Tryz.func104, Tryz.ntmps104
      go_wp2
      go_ret
      exact ⟨rfl, rfl⟩
end Go.Proofs.YtbiboamaigedjaaGreatDoor
namespace Go.Proofs.YtbiboamaigedjaaGreatDoor
set_option linter.unusedVariables false
set_option maxRecDepth 8000
theorem Qax : Ed Tryz.prog 5 = true := by kernel_rfl
theorem XO : UL Tryz.prog 23 1 = true := by kernel_rfl
theorem Xg : apB Tryz.prog 23 1 1 = true := by kernel_rfl
theorem Ql : Ed Tryz.prog 47 = true := by kernel_rfl
theorem Qd : ZV Tryz.prog 47 1 = true := by kernel_rfl
theorem G4 : Qb3 Tryz.prog 68 8 = true := by kernel_rfl
theorem Y9 : ZV Tryz.prog 68 8 = true := by kernel_rfl
theorem UI : (Tryz.prog.info? 68).bind (·.zero) = some (.agg #[.int .u64 0, .int .u64 0, .int .u64 0, .int .u64 0, .int .u64 0, .int .u64 0, .int .u64 0, .int .u64 0]) := by kernel_rfl
theorem X5 : Qb3 Tryz.prog 122 3 = true := by kernel_rfl
theorem XP : ZV Tryz.prog 122 3 = true := by kernel_rfl
theorem Vq : ZV Tryz.prog 123 12 = true := by kernel_rfl
theorem G3 : (Tryz.prog.info? 123).bind (·.zero) = some (.agg #[.int .i64 0, .int .i64 0, .int .i64 0, .int .i64 0, .int .i64 0, .int .i64 0, .int .i64 0, .int .i64 0, .int .i64 0, .int .i64 0, .int .i64 0, .int .i64 0]) := by kernel_rfl
theorem G1 : (Tryz.prog.info? 125).bind (·.zero) = some (.agg (Array.replicate 80 (.int .u64 0))) := by kernel_rfl
end Go.Proofs.YtbiboamaigedjaaGreatDoor
namespace Go.Proofs.YtbiboamaigedjaaGreatDoor
open Go.RowKit
set_option linter.unusedVariables false
set_option linter.unusedSimpArgs false
set_option maxRecDepth 8000
set_option maxHeartbeats 2000000

theorem Yy {P : Program} {F : FuncId} {args : List Value} {u : Value} {w : World} (h : Calls P F args.toArray w fun e w' => e = .returned u /\ w' = w) : CV P F args w fun v _ => v = u :=
  Calls.mono h fun e w' ⟨h1, h2⟩ => ⟨u, h1, rfl, by rw [h2]; exact Below.refl _ _⟩
def Q6 (z : List Int) : List Value := z.map (Value.int .u64)
theorem X8 (z : List Int) : (Q6 z).length = z.length := by simp [Q6]
theorem Qmp (z : List Int) : ∀ u ∈ Q6 z, u.oneCell' = true := fun u hu => by
  obtain ⟨n, _, rfl⟩ := List.mem_map.1 hu
  rfl
theorem YG {z : List Int} {i : Nat} (h : i < z.length) : (Q6 z)[i]? = some (.int .u64 (Qb z i)) := by simp [Q6, Qb, h]
theorem QaN {z : List Int} {k : Nat} {y : Int} (h : k < z.length) : (Q6 z).take k ++ ([.int .u64 y] ++ (Q6 z).drop (k + 1)) = Q6 (z.set k y) := by
  unfold Q6
  rw [<- List.map_take, <- List.map_drop, List.set_eq_take_append_cons_drop, if_pos h]
  simp
theorem Qku {z : List Int} (h : z.length = 8) : Q6 z = [.int .u64 (Qb z 0), .int .u64 (Qb z 1), .int .u64 (Qb z 2), .int .u64 (Qb z 3), .int .u64 (Qb z 4), .int .u64 (Qb z 5), .int .u64 (Qb z 6), .int .u64 (Qb z 7)] := by
  match z, h with
  | [a, b, c, d, e, f, g, i], _ => rfl
abbrev e8 (x : Int) : List Value := [.int .u8 x]
theorem J6 (xs : List Int) : ∀ r ∈ xs.map e8, ∀ u ∈ r, u.oneCell' = true := fun r hr u hu => by
  obtain ⟨x, _, rfl⟩ := List.mem_map.1 hr
  rw [List.mem_singleton.1 hu]
  rfl
/-- The reference's tables, off these blocks. -/
def ZJ (L : List Nat) (w : World) : Prop := Qag w /\ 2 ∉ L /\ 3 ∉ L
theorem Qag.at {w w' : World} (h : Qag w) (h1 : w'.heap[2]? = w.heap[2]?) (h2 : w'.heap[3]? = w.heap[3]?) : Qag w' := by
  refine ⟨fun k hk => ?_, fun k hk => ?_⟩
  . have := h.be k hk
    unfold World.cell? at this ⊢
    rw [h1]
    exact this
  . have := h.ro k hk
    unfold World.cell? at this ⊢
    rw [h2]
    exact this
theorem ZJ.below {L : List Nat} {w w' : World} (h : ZJ L w) (hb : Below w.heap.size w w') : ZJ L w' := ⟨h.1.below hb, h.2⟩
theorem ZJ.more {L : List Nat} {w w' : World} (h : ZJ L w) (hb : Below w.heap.size w w') {B : Nat} (hB : w.heap.size <= B) : ZJ (B :: L) w' := by
  have := h.1.lt
  refine ⟨h.1.below hb, fun hx => ?_, fun hx => ?_⟩
  . rcases List.mem_cons.1 hx with e | e
    . omega
    . exact h.2.1 e
  . rcases List.mem_cons.1 hx with e | e
    . omega
    . exact h.2.2 e
theorem ZJ.only {L : List Nat} {w w' : World} (h : ZJ L w) {B : Nat} (ho : U4 B w w') (hB : B ∈ L) : ZJ L w' := ⟨h.1.at (ho.block _ (fun e => h.2.1 (e ▸ hB))) (ho.block _ (fun e => h.2.2 (e ▸ hB))), h.2⟩
theorem ZJ.less {L L' : List Nat} {w : World} (h : ZJ L w) (hl : ∀ x, x ∈ L' -> x ∈ L) : ZJ L' w := ⟨h.1, fun hx => h.2.1 (hl _ hx), fun hx => h.2.2 (hl _ hx)⟩
theorem Qaj.toV {s base : Nat} {rs : List (List Value)} {u : Value} {w : World} (h : Qaj s base rs u w) : Yp s base rs u w := by
  rcases h with h | ⟨B, sp, h1, rfl, h3, h4⟩
  . exact .inl h
  . exact .inr ⟨B, h1, h3.own⟩
section
variable {P : Program} {ops : Array Oper} {o : Oper} {N : Nat} {f : Fl} {w : World}
theorem Jw {t t' : TypeId} {x y : Operand} {K K2 : IntKind} {m n r : Int} (ho : o.op = .binOp .shr t x y t') (hx : ev f x = some (.int K m)) (hy : ev f y = some (.int K2 n)) (hn : 0 <= n) (hn2 : n <= K.bits) (hr : m / 2 ^ n.toNat = r) (hw : Qu ops o f = some true := by rfl) : DV P ops o N f w (.int K r) := fun a ha =>
  Qt.shr (Qj ha hw) ho (ha.ev hx) (ha.ev hy) hn hn2 hr ⟨rfl, rfl⟩
theorem QhO {t t' : TypeId} {x y : Operand} {K K2 : IntKind} {m n r : Int} (ho : o.op = .binOp .shl t x y t') (hx : ev f x = some (.int K m)) (hy : ev f y = some (.int K2 n)) (hn : 0 <= n) (hn2 : n <= K.bits) (hr : K.wrap (m * 2 ^ n.toNat) = r) (hw : Qu ops o f = some true := by rfl) : DV P ops o N f w (.int K r) := fun a ha =>
  Qt.shl (Qj ha hw) ho (ha.ev hx) (ha.ev hy) hn hn2 hr ⟨rfl, rfl⟩
theorem QhL {t : TypeId} {x : Operand} {m : Int} (ho : o.op = .unOp .xor t x) (hx : ev f x = some (.int .u64 m)) (hw : Qu ops o f = some true := by rfl) : DV P ops o N f w (.int .u64 (X0 m)) := fun a ha =>
  Qt.unXor (Qj ha hw) ho (ha.ev hx) ⟨rfl, rfl⟩
end
theorem Ja (a b c : Int) : Tryz.prog.built 122 [(0, .int .i64 a), (1, .int .i64 b), (2, .int .i64 c)] = some [.int .i64 a, .int .i64 b, .int .i64 c].toArray := by kernel_rfl
theorem Qdi (a b c d e f g h i j k l : Value) : Tryz.prog.built 123 [(0, .agg #[a, b, c]), (1, .agg #[d, e, f]), (2, .agg #[g, h, i]), (3, .agg #[j, k, l])] = some [a, b, c, d, e, f, g, h, i, j, k, l].toArray := by kernel_rfl
theorem QkA (a b c d e f g h : Int) : Tryz.prog.built 68 [(0, .int .u64 a), (1, .int .u64 b), (2, .int .u64 c), (3, .int .u64 d), (4, .int .u64 e), (5, .int .u64 f), (6, .int .u64 g), (7, .int .u64 h)] = some [.int .u64 a, .int .u64 b, .int .u64 c, .int .u64 d, .int .u64 e, .int .u64 f, .int .u64 g, .int .u64 h].toArray := by kernel_rfl
theorem EZ : (Value.agg (Array.replicate 80 (Value.int .u64 0))).cells.toList = Q6 (List.replicate 80 0) := by simp [Value.cells, Q6]
theorem Gj : (Value.agg #[.int .u64 0, .int .u64 0, .int .u64 0, .int .u64 0, .int .u64 0, .int .u64 0, .int .u64 0, .int .u64 0]).cells.toList = Q6 (List.replicate 8 0) := rfl
theorem Q9 (x : Int) : IntKind.u64.wrap x = x % 18446744073709551616 := Yf x
theorem E4 (x : Int) : IntKind.u8.wrap x = x % 256 := IntKind.wrap_u8' x
theorem Y5 (x : Int) : Xh (x % 18446744073709551616) := Jq x
theorem Hy {T st : List Int} {i : Nat} (hT : T.length = 8) (hs : st.length = 8) (hi : i < 8) : (T.take i ++ st.drop i).set i (Qb T i) = T.take (i + 1) ++ st.drop (i + 1) := by
  have h1 : (T.take i).length = i := by rw [List.length_take]; omega
  rw [List.set_append, if_neg (by omega), h1, Nat.sub_self]
  rw [show st.drop i = st[i] :: st.drop (i + 1) from List.drop_eq_getElem_cons (by omega)]
  rw [List.set_cons_zero, ZM T i (by omega), List.append_assoc]
  rfl
theorem ZZ {T st : List Int} {i : Nat} (hT : T.length = 8) (hs : st.length = 8) (hi : i <= 8) : (T.take i ++ st.drop i).length = 8 := by
  rw [List.length_append, List.length_take, List.length_drop, hT, hs]
  omega
theorem JO : (List.replicate 8 (0 : Int)).length = 8 := List.length_replicate ..
theorem V5 {P : Program} {F : FuncId} {args : List Value} {u : Value} {w : World} (h : Calls P F args.toArray w fun e w' => e = .returned u /\ Below w.heap.size w w') : CV P F args w fun v _ => v = u :=
  Calls.mono h fun e w' ⟨h1, h2⟩ => ⟨u, h1, rfl, h2⟩
theorem Qhf {T st : List Int} {i : Nat} (hT : T.length = 8) (hs : st.length = 8) (hi : i < 8) : Qb (T.take i ++ st.drop i) i = Qb st i := by
  have h1 : (T.take i).length = i := by rw [List.length_take]; omega
  rw [V9, if_neg (by omega), h1, Nat.sub_self]
  unfold Qb
  rw [List.getElem?_drop, Nat.add_zero]
theorem XG {p : Int -> Prop} {l : List Int} (h0 : p 0) (h : ∀ x ∈ l, p x) (j : Nat) : p (Qb l j) := by
  unfold Qb
  cases e : l[j]? with
  | none => exact h0
  | some x => exact h x (List.mem_of_getElem? e)
theorem Qb0 {l : List Int} {i : Nat} (h : i < l.length) : l[i]? = some (Qb l i) := by unfold Qb; rw [List.getElem?_eq_getElem h]; rfl
theorem Qbc (n : Nat) (h : n <= 1099511627776) : Za (n : Int) 32 = (QM n : Nat) := by
  unfold Za QM
  rw [if_neg (by omega)]
  omega
theorem GI (n : Nat) : n + 9 <= QM n /\ QM n <= n + 72 /\ QM n % 64 = 0 := by unfold QM; omega
theorem Z8 (st zs : List Int) : (Xb st zs).length = 8 := by simp [Xb]
theorem QeS (st zs : List Int) (j : Nat) (h : j < 8) : Qb (Xb st zs) j = (Qb st j + Qb (Qs (Qg zs 48) (QF st) 64).list j) % 4294967296 := by simp [Xb, Qb, h]
theorem Y3 : Q3.length = 8 := by simp [Q3]
theorem Gw (zs : List Int) : ∀ k, (QU Q3 zs k).length = 8
  | 0 => Y3
  | k + 1 => Z8 _ _
theorem Qdk : ∀ x ∈ Q3, XC x := by unfold XC; decide
theorem Qb5 (zs : List Int) : ∀ k, ∀ x ∈ QU Q3 zs k, XC x
  | 0 => Qdk
  | k + 1 => fun x hx => by
    obtain ⟨j, _, rfl⟩ := List.mem_map.1 hx
    exact K0 _
theorem Zf : XC 0 := by unfold XC; omega
theorem Qc7 {st : List Int} (h : ∀ x ∈ st, XC x) : (QF st).ok := ⟨XG Zf h 0, XG Zf h 1, XG Zf h 2, XG Zf h 3, XG Zf h 4, XG Zf h 5, XG Zf h 6, XG Zf h 7⟩
theorem DP {D : List Int} (h : Qh D) : Qh (Xu D) := fun x hx => (List.mem_append.1 hx).elim (h x) (G5 _ _ x)
/-- The bytes so far, of those with what is Za: some zeros behind the one bit. -/
theorem DO (D : List Int) : Xu D = D ++ 128 :: List.replicate (QM D.length - D.length - 9) 0 ++ XK D.length := by simp [Xu, Jg]
theorem QcW (n k : Nat) (hk : k < 8) : (n : Int) * 8 / 2 ^ (56 - 8 * (k : Int)).toNat % 256 = Qb (XK n) k := by
  rw [FG _ _ hk, show (56 - 8 * (k : Int)).toNat = 8 * (7 - k) by omega]
theorem Qcg (st : List Int) (i j : Nat) (hi : i < 8) (hj : j < 4) : Qb st i / 2 ^ (24 - 8 * (j : Int)).toNat % 256 = Qb (Xl st) (i * 4 + j) := by
  rw [Et _ _ (by omega), show (i * 4 + j) / 4 = i by omega, show (24 - 8 * (j : Int)).toNat = 8 * (4 - 1 - (i * 4 + j) % 4) by omega]
theorem Qch (st : List Int) : (Xl st).length = 32 := by simp [Xl]
theorem Qbb (n : Nat) (h : n <= 1099511627776) : Za (n : Int) 64 = (QL n : Nat) := by
  unfold Za QL
  rw [if_neg (by omega)]
  omega
theorem GH (n : Nat) : n + 9 <= QL n /\ QL n <= n + 144 /\ QL n % 128 = 0 := by unfold QL; omega
theorem Z7 (st zs : List Int) : (Xa st zs).length = 8 := by simp [Xa]
theorem QeR (st zs : List Int) (j : Nat) (h : j < 8) : Qb (Xa st zs) j = (Qb st j + Qb (Qr (Qf zs 64) (QE st) 80).list j) % 18446744073709551616 := by simp [Xa, Qb, h]
theorem Y2 : Q2.length = 8 := by simp [Q2]
theorem Gv (zs : List Int) : ∀ k, (QT Q2 zs k).length = 8
  | 0 => Y2
  | k + 1 => Z7 _ _
theorem Qdj : ∀ x ∈ Q2, Xh x := by unfold Xh; decide
theorem Qb4 (zs : List Int) : ∀ k, ∀ x ∈ QT Q2 zs k, Xh x
  | 0 => Qdj
  | k + 1 => fun x hx => by
    obtain ⟨j, _, rfl⟩ := List.mem_map.1 hx
    exact Jq _
theorem Ze : Xh 0 := by unfold Xh; omega
theorem Qc6 {st : List Int} (h : ∀ x ∈ st, Xh x) : (QE st).ok := ⟨XG Ze h 0, XG Ze h 1, XG Ze h 2, XG Ze h 3, XG Ze h 4, XG Ze h 5, XG Ze h 6, XG Ze h 7⟩
theorem DN {D : List Int} (h : Qh D) : Qh (Xt D) := fun x hx => (List.mem_append.1 hx).elim (h x) (G5 _ _ x)
/-- The bytes so far, of those with what is Za: some zeros behind the one bit. -/
theorem DM (D : List Int) : Xt D = D ++ 128 :: List.replicate (QL D.length - D.length - 9) 0 ++ XK D.length := by simp [Xt, Jg]
theorem QcV (n k : Nat) (hk : k < 8) : (n : Int) * 8 / 2 ^ (56 - 8 * (k : Int)).toNat % 256 = Qb (XK n) k := by
  rw [FG _ _ hk, show (56 - 8 * (k : Int)).toNat = 8 * (7 - k) by omega]
theorem Qce (st : List Int) (i j : Nat) (hi : i < 8) (hj : j < 8) : Qb st i / 2 ^ (56 - 8 * (j : Int)).toNat % 256 = Qb (Xi st) (i * 8 + j) := by
  rw [Es _ _ (by omega), show (i * 8 + j) / 8 = i by omega, show (56 - 8 * (j : Int)).toNat = 8 * (8 - 1 - (i * 8 + j) % 8) by omega]
theorem Qcf (st : List Int) : (Xi st).length = 64 := by simp [Xi]
theorem Qfp (m : List Int) (i : Nat) (a b c d : Int) (ha : a = Qb m (i - 16)) (hb : b = VD (Qb m (i - 15))) (hc : c = Qb m (i - 7)) (hd : d = UY (Qb m (i - 2))) : (((a + b) % 18446744073709551616 + c) % 18446744073709551616 + d) % 18446744073709551616 % 4294967296 = YM m i := by
  subst ha hb hc hd
  unfold YM
  omega
theorem Qfo (m : List Int) (i : Nat) (a b c d : Int) (ha : a = Qb m (i - 16)) (hb : b = VC (Qb m (i - 15))) (hc : c = Qb m (i - 7)) (hd : d = UX (Qb m (i - 2))) : (((a + b) % 18446744073709551616 + c) % 18446744073709551616 + d) % 18446744073709551616 = YL m i := by
  subst ha hb hc hd
  unfold YL
  omega
theorem QkO (m : List Int) (i : Nat) (v : Xy) (h : v.ok) : ((((v.h + VN v.e) % 18446744073709551616 + bits BinOp.xor .u64 (bits BinOp.and .u64 v.e v.f) (bits BinOp.and .u64 (X0 v.e) v.g)) % 18446744073709551616 + Qb Q7 i / 4294967296) % 18446744073709551616 + Qb m i) % 18446744073709551616 % 4294967296 = YE m i v := by
  obtain ⟨_, _, _, _, he, hf, hg, _⟩ := h
  rw [Qaf he hf, Qfm he hg, J9 (Zc _ _ _) (Zc _ _ _)]
  unfold YE
  omega
theorem QkN (m : List Int) (i : Nat) (v : Xx) (h : v.ok) : ((((v.h + VM v.e) % 18446744073709551616 + bits BinOp.xor .u64 (bits BinOp.and .u64 v.e v.f) (bits BinOp.and .u64 (X0 v.e) v.g)) % 18446744073709551616 + Qb Q7 i) % 18446744073709551616 + Qb m i) % 18446744073709551616 = YD m i v := by
  unfold YD
  omega
theorem QkJ (v : Xy) (h : v.ok) : (JE v.a + bits BinOp.xor .u64 (bits BinOp.xor .u64 (bits BinOp.and .u64 v.a v.b) (bits BinOp.and .u64 v.a v.c)) (bits BinOp.and .u64 v.b v.c)) % 18446744073709551616 % 4294967296 = JZ v := by
  obtain ⟨ha, hb, hc, _⟩ := h
  rw [Qaf ha hb, Qaf ha hc, Qaf hb hc, J9 (Zc _ _ _) (Zc _ _ _), J9 (Zc _ _ _) (Zc _ _ _)]
  unfold JZ
  omega
theorem QkI (v : Xx) (h : v.ok) : (JD v.a + bits BinOp.xor .u64 (bits BinOp.xor .u64 (bits BinOp.and .u64 v.a v.b) (bits BinOp.and .u64 v.a v.c)) (bits BinOp.and .u64 v.b v.c)) % 18446744073709551616 = Ke v := rfl
theorem GT (x y : Int) : (x + y) % 18446744073709551616 % 4294967296 = (x + y) % 4294967296 := by omega
theorem EX (x y : Int) : (x + y) % 18446744073709551616 = (x + y) % 18446744073709551616 := rfl
set_option maxHeartbeats 4000000 in
theorem Qcw (D : List Int) (sv : Value) (w : World) (L : List Nat) (hL : LL L w) (h1 : Zh 1 L w sv (D.map e8)) (hT : ZJ L w)  (hDm : D.length <= 10000) (hDb : Qh D) : CV Tryz.prog 66 [sv, .int .i64 64] w fun v W => Zh 1 L W v ((Xw D).map e8) := by
  refine QbN (N := 280) (f := [(0, sv), (1, .int .i64 64)]) Tryz.func66 rfl rfl rfl rfl fun Q hQ hE => ?_
  have hB := Below.refl w.heap.size w
  have hL0 := hL
  have h1m : D.length <= maxLen := by have := h1.len; rwa [List.length_map] at this
  unfold maxLen at h1m
  refine WC.seq fun K1 hK1 => ?_
  refine WC.region ?_
  refine WL.val (Qi rfl rfl) rfl rfl ?_
  refine WL.nil ?_
  refine hK1 ?_
  refine WC.seq fun K2 hK2 => ?_
  refine WC.region ?_
  refine WL.val (Xs rfl rfl (Ja _ _ _)) rfl rfl ?_
  refine WL.val (Xs rfl rfl (Ja _ _ _)) rfl rfl ?_
  refine WL.val (Xs rfl rfl (Ja _ _ _)) rfl rfl ?_
  refine WL.val (Xs rfl rfl (Ja _ _ _)) rfl rfl ?_
  refine WL.val (Xs rfl rfl (Qdi _ _ _ _ _ _ _ _ _ _ _ _)) rfl rfl ?_
  refine WL.get (Z0 rfl G3 rfl) rfl rfl ?_
  rintro _ W3 ⟨rfl, k4, b5, z6⟩
  have l7 := hB.size
  replace h1 := h1.more b5 (Nat.le_refl _)
  replace hT := hT.more b5 (Nat.le_refl _)
  replace hB := Qk hB b5
  replace hL := LL.more hL z6
  refine WL.do (Xr (cs' := [.int .i64 2, .int .i64 13, .int .i64 22, .int .i64 6, .int .i64 11, .int .i64 25, .int .i64 7, .int .i64 18, .int .i64 3, .int .i64 17, .int .i64 19, .int .i64 10]) (vs := [.int .i64 2, .int .i64 13, .int .i64 22, .int .i64 6, .int .i64 11, .int .i64 25, .int .i64 7, .int .i64 18, .int .i64 3, .int .i64 17, .int .i64 19, .int .i64 10]) rfl Vq rfl rfl rfl (Qx rfl (Qx rfl (Qx rfl (Qx rfl (Qx rfl (Qx rfl (Qx rfl (Qx rfl (Qx rfl (Qx rfl (Qx rfl (Qx rfl Yc)))))))))))) k4 rfl (Nat.le_of_ble_eq_true rfl) rfl) rfl ?_
  rintro _ W8 ⟨k10, o9⟩
  clear k4
  replace h1 := h1.only o9 (.head _)
  replace hT := hT.only o9 (.head _)
  replace hB := o9.below hB l7
  replace hL := LL.only hL o9
  refine WL.nil ?_
  refine hK2 ?_
  refine WC.seq fun K11 hK11 => ?_
  refine WC.region ?_
  refine WL.val (Qi rfl rfl) rfl rfl ?_
  refine WL.nil ?_
  refine hK11 ?_
  refine WC.seq fun K12 hK12 => ?_
  refine WC.seq fun K13 hK13 => ?_
  refine WC.region ?_
  refine WL.val (Qe rfl rfl) rfl rfl ?_
  refine WL.val (Qda rfl rfl rfl) rfl rfl ?_
  refine WL.nil ?_
  refine hK13 ?_
  refine WC.condT rfl ?_
  refine WC.seq fun K14 hK14 => ?_
  refine WC.region ?_
  refine WL.val (Xs rfl rfl (Ja _ _ _)) rfl rfl ?_
  refine WL.val (Xs rfl rfl (Ja _ _ _)) rfl rfl ?_
  refine WL.val (Xs rfl rfl (Ja _ _ _)) rfl rfl ?_
  refine WL.val (Xs rfl rfl (Ja _ _ _)) rfl rfl ?_
  refine WL.val (Xs rfl rfl (Qdi _ _ _ _ _ _ _ _ _ _ _ _)) rfl rfl ?_
  refine WL.do (Xr (cs' := [.int .i64 28, .int .i64 34, .int .i64 39, .int .i64 14, .int .i64 18, .int .i64 41, .int .i64 1, .int .i64 8, .int .i64 7, .int .i64 19, .int .i64 61, .int .i64 6]) (vs := [.int .i64 28, .int .i64 34, .int .i64 39, .int .i64 14, .int .i64 18, .int .i64 41, .int .i64 1, .int .i64 8, .int .i64 7, .int .i64 19, .int .i64 61, .int .i64 6]) rfl Vq rfl rfl rfl (Qx rfl (Qx rfl (Qx rfl (Qx rfl (Qx rfl (Qx rfl (Qx rfl (Qx rfl (Qx rfl (Qx rfl (Qx rfl (Qx rfl Yc)))))))))))) k10 rfl (Nat.le_of_ble_eq_true rfl) rfl) rfl ?_
  rintro _ W15 ⟨k17, o16⟩
  clear k10
  replace h1 := h1.only o16 (.head _)
  replace hT := hT.only o16 (.head _)
  replace hB := o16.below hB l7
  replace hL := LL.only hL o16
  refine WL.nil ?_
  refine hK14 ?_
  refine WC.region ?_
  refine WL.val (Qi rfl rfl) rfl rfl ?_
  refine WL.nil ?_
  refine hK12 ?_
  refine WC.seq fun K18 hK18 => ?_
  have hDl : D.length <= 10000 := hDm
  have zh1 := h1
  have zhT := hT
  have zk17 := k17
  have zhB := hB
  have zhL := hL
  have hC : XY W15 (w.heap.size :: L) W15 := Below.refl _ _
  refine WC.region ?_
  refine WL.get (QbK rfl Xg (by decide)) rfl rfl ?_
  rintro u19 W20 ⟨b21, hE⟩
  replace h1 := h1.below b21
  replace hT := hT.below b21
  replace hC := hC.below b21
  replace k17 := k17.below b21
  replace hB := Qk hB b21
  replace hL := LL.below hL b21
  refine WL.val (Qe rfl rfl) rfl rfl ?_
  refine WL.get (QhW (base := W15.heap.size) rfl Xg rfl rfl hE h1 (J6 D) (by rw [List.length_map]; unfold maxLen; omega) (by rw [List.length_map]; omega) (Below.size hC)) rfl rfl ?_
  rintro u22 W23 ⟨b24, hN⟩
  replace h1 := h1.below b24
  replace hT := hT.below b24
  replace hC := hC.below b24
  replace k17 := k17.below b24
  replace hB := Qk hB b24
  replace hL := LL.below hL b24
  have h5 : Yp 1 W15.heap.size (D.map e8) u22 W23 := hN.toV
  refine WL.get (V3 (r := e8 128) rfl Xg (by decide) (by decide) rfl rfl rfl) rfl rfl ?_
  rintro x25 W26 ⟨k28, b27, z29⟩
  replace h1 := h1.below b27
  replace hT := hT.below b27
  replace hC := hC.below b27
  replace h5 := h5.below b27
  replace k17 := k17.below b27
  replace hB := Qk hB b27
  replace hL := LL.below hL b27
  have hx := k28.rd (L := []) (by simp)
  refine WL.get (Jz (base := W15.heap.size) rfl Xg rfl rfl h5 hx (J6 [128]) (by simp [maxLen]; omega) (by simp; omega) (Below.size hC)) rfl rfl ?_
  rintro x30 W31 ⟨h5, E1⟩
  replace h5 : Yp 1 W15.heap.size ((D ++ [128]).map e8) x30 W31 := by rw [List.map_append]; exact h5
  replace hC : XY W15 (w.heap.size :: L) W31 := Below.trans hC E1
  replace h1 := zh1.below hC
  replace hT := zhT.below hC
  replace k17 := zk17.below hC
  replace hB := Qk zhB hC
  replace hL := LL.below zhL hC
  refine WL.val (Qi rfl rfl) rfl rfl ?_
  refine WL.nil ?_
  refine hK18 ?_
  refine WC.seq fun K33 hK33 => ?_
  refine WC.block ?_
  have hpg := GH D.length
  refine WC.loop2 (fun (j : Nat) (ov : Value) => [(0, sv), (1, .int .i64 64), (5, .pointer (some ⟨w.heap.size, 0, none⟩)), (6, .int .i64 80), (7, ov)]) (fun (j : Nat) (ov : Value) W => j <= QL D.length - D.length - 9 /\ Below w.heap.size w W /\ LL (w.heap.size :: L) W /\ Zh 1 (w.heap.size :: L) W sv (D.map e8) /\ ZJ (w.heap.size :: L) W /\ XY W15 (w.heap.size :: L) W /\ Yp 1 W15.heap.size ((D ++ 128 :: List.replicate j 0).map e8) ov W /\ Q8 W w.heap.size [.int .i64 28, .int .i64 34, .int .i64 39, .int .i64 14, .int .i64 18, .int .i64 41, .int .i64 1, .int .i64 8, .int .i64 7, .int .i64 19, .int .i64 61, .int .i64 6]) (fun (j : Nat) (ov : Value) => QL D.length - j) 0 x30 (by repeat first | exact trivial | exact And.intro rfl trivial | refine And.intro rfl ?_ | refine And.intro (congrArg (fun z : Int => some (Value.int .i64 z)) (by omega)) ?_ | refine And.intro (congrArg (fun z : Bool => some (Value.bool z)) (by first | exact (decide_eq_true (by omega)).symm | exact (decide_eq_false (by omega)).symm)) ?_) ⟨Nat.zero_le _, hB, hL, h1, hT, hC, h5, k17⟩ ?_
  clear h1 hT hC h5 k17 hB hL
  rintro K34 j ov W35 ⟨hj, hB, hL, h1, hT, hC, h5, k17⟩ hK34
  have hol : (D ++ 128 :: List.replicate j 0).length = D.length + 1 + j := by simp; omega
  refine WC.seq fun K36 hK36 => ?_
  refine WC.seq fun K37 hK37 => ?_
  refine WC.region ?_
  refine WL.val (Qe rfl rfl) rfl rfl ?_
  refine WL.val (V4 rfl XO rfl (h5.rd (L := []) (by simp))) rfl rfl ?_
  have hln : ((D ++ 128 :: List.replicate j 0).map e8).length = (D ++ 128 :: List.replicate j 0).length := List.length_map _
  refine WL.val (Qe rfl rfl) rfl rfl ?_
  refine WL.val (V4 rfl XO rfl h1) rfl rfl ?_
  refine WL.val (Qe rfl rfl) rfl rfl ?_
  refine WL.get (ZT rfl Tryz.func104 rfl rfl rfl ((show CV _ _ [.int .i64 ((D.map e8).length : Int), .int .i64 64] _ (fun v _ => v = .int .i64 ((QL D.length : Nat) : Int)) from by rw [List.length_map]; have := Yy (KM (D.length : Int) 64 W35 (by omega) (by decide)); rw [Qbb _ (by omega)] at this; exact this))) rfl rfl ?_
  rintro _ W39 ⟨rfl, b38⟩
  replace h1 := h1.below b38
  replace hT := hT.below b38
  replace hC := hC.below b38
  replace h5 := h5.below b38
  replace k17 := k17.below b38
  replace hB := Qk hB b38
  replace hL := LL.below hL b38
  refine WL.val (X2 (r := ((QL D.length : Nat) : Int) - 8) rfl rfl rfl (QD (by omega))) rfl rfl ?_
  refine WL.val (ZF rfl rfl rfl) rfl rfl ?_
  refine WL.nil ?_
  refine hK37 ?_
  refine WC.cond rfl (fun c40 => ?_) (fun c40 => ?_)
  .
    replace c40 := of_decide_eq_true c40
    refine WC.skip ?_
    refine hK36 ?_
    refine WC.block ?_
    refine WC.region ?_
    refine WL.val (Qe rfl rfl) rfl rfl ?_
    refine WL.get (V3 (r := e8 0) rfl Xg (by decide) (by decide) rfl rfl rfl) rfl rfl ?_
    rintro x41 W42 ⟨k44, b43, z45⟩
    replace h1 := h1.below b43
    replace hT := hT.below b43
    replace hC := hC.below b43
    replace h5 := h5.below b43
    replace k17 := k17.below b43
    replace hB := Qk hB b43
    replace hL := LL.below hL b43
    have hx := k44.rd (L := []) (by simp)
    refine WL.get (Jz (base := W15.heap.size) rfl Xg rfl rfl h5 hx (J6 [0]) (by simp [maxLen]; omega) (by simp; omega) (Below.size hC)) rfl rfl ?_
    rintro x46 W47 ⟨h5, b48⟩
    replace h5 : Yp 1 W15.heap.size (((D ++ 128 :: List.replicate j 0) ++ [0]).map e8) x46 W47 := by rw [List.map_append]; exact h5
    replace hC : XY W15 (w.heap.size :: L) W47 := Below.trans hC b48
    replace h1 := zh1.below hC
    replace hT := zhT.below hC
    replace k17 := zk17.below hC
    replace hB := Qk zhB hC
    replace hL := LL.below zhL hC
    refine WL.val (Qi rfl rfl) rfl rfl ?_
    refine WL.nil ?_
    rw [show ((D ++ 128 :: List.replicate j 0) ++ [0]) = D ++ 128 :: List.replicate (j + 1) 0 from by rw [List.replicate_succ']; simp] at h5
    exact hK34 (j + 1) x46 ⟨(by simp only [List.length_map] at *; omega), hB, hL, h1, hT, hC, h5, k17⟩ (by simp only [List.length_map] at *; omega) (by repeat first | exact trivial | exact And.intro rfl trivial | refine And.intro rfl ?_ | refine And.intro (congrArg (fun z : Int => some (Value.int .i64 z)) (by omega)) ?_ | refine And.intro (congrArg (fun z : Bool => some (Value.bool z)) (by first | exact (decide_eq_true (by omega)).symm | exact (decide_eq_false (by omega)).symm)) ?_)
  .
    replace c40 := of_decide_eq_false c40
    refine WC.exit ?_
    refine hK33 ?_
    refine WC.seq fun K49 hK49 => ?_
    have hje : j = QL D.length - D.length - 9 := (by simp only [List.length_map] at *; omega)
    refine WC.region ?_
    refine WL.val (Qe rfl rfl) rfl rfl ?_
    refine WL.val (V4 rfl XO rfl h1) rfl rfl ?_
    refine WL.val (XZ (r := (D.length : Int)) rfl Tryz.underlying3 Tryz.underlying47 rfl (by rw [Q9, List.length_map]; omega)) rfl rfl ?_
    refine WL.val (Jy (r := (D.length : Int) * 8) rfl rfl rfl (by rw [Q9]; omega)) rfl rfl ?_
    refine WL.val (Qi rfl rfl) rfl rfl ?_
    refine WL.nil ?_
    refine hK49 ?_
    refine WC.seq fun K50 hK50 => ?_
    refine WC.seq fun K51 hK51 => ?_
    refine WC.region ?_
    refine WL.val (Qi rfl rfl) rfl rfl ?_
    refine WL.nil ?_
    refine hK51 ?_
    refine WC.block ?_
    replace h5 : Yp 1 W15.heap.size (((D ++ 128 :: List.replicate j 0) ++ (XK D.length).take 0).map e8) ov W39 := by rw [List.take_zero, List.append_nil]; exact h5
    refine WC.loop2 (fun (k : Nat) (ov2 : Value) => [(1, .int .i64 64), (5, .pointer (some ⟨w.heap.size, 0, none⟩)), (6, .int .i64 80), (8, .int .u64 ((D.length : Int) * 8)), (7, ov2), (9, .int .i64 (56 - 8 * (k : Int)))]) (fun (k : Nat) (ov2 : Value) W => k <= 8 /\ Below w.heap.size w W /\ LL (w.heap.size :: L) W /\ Zh 1 (w.heap.size :: L) W sv (D.map e8) /\ ZJ (w.heap.size :: L) W /\ XY W15 (w.heap.size :: L) W /\ Yp 1 W15.heap.size (((D ++ 128 :: List.replicate j 0) ++ (XK D.length).take k).map e8) ov2 W /\ Q8 W w.heap.size [.int .i64 28, .int .i64 34, .int .i64 39, .int .i64 14, .int .i64 18, .int .i64 41, .int .i64 1, .int .i64 8, .int .i64 7, .int .i64 19, .int .i64 61, .int .i64 6]) (fun (k : Nat) (ov2 : Value) => 8 - k) 0 ov (by repeat first | exact trivial | exact And.intro rfl trivial | refine And.intro rfl ?_ | refine And.intro (congrArg (fun z : Int => some (Value.int .i64 z)) (by omega)) ?_ | refine And.intro (congrArg (fun z : Bool => some (Value.bool z)) (by first | exact (decide_eq_true (by omega)).symm | exact (decide_eq_false (by omega)).symm)) ?_) ⟨(by decide), hB, hL, h1, hT, hC, h5, k17⟩ ?_
    clear h1 hT hC h5 k17 hB hL
    rintro K52 k ov2 W53 ⟨hk, hB, hL, h1, hT, hC, h5, k17⟩ hK52
    have hol2 : ((D ++ 128 :: List.replicate j 0) ++ (XK D.length).take k).length = D.length + 1 + j + k := by simp [Yi]; omega
    refine WC.seq fun K54 hK54 => ?_
    refine WC.seq fun K55 hK55 => ?_
    refine WC.region ?_
    refine WL.val (Qe rfl rfl) rfl rfl ?_
    refine WL.val (FP rfl rfl rfl) rfl rfl ?_
    refine WL.nil ?_
    refine hK55 ?_
    refine WC.cond rfl (fun c56 => ?_) (fun c56 => ?_)
    .
      replace c56 := of_decide_eq_true c56
      refine WC.skip ?_
      refine hK54 ?_
      refine WC.seq fun K57 hK57 => ?_
      refine WC.block ?_
      refine WC.region ?_
      refine WL.val (Qe rfl rfl) rfl rfl ?_
      refine WL.val (Qe rfl rfl) rfl rfl ?_
      refine WL.val (Qe rfl rfl) rfl rfl ?_
      refine WL.val (XZ (r := (56 - 8 * (k : Int))) rfl Tryz.underlying3 Tryz.underlying75 rfl (by rw [Q9]; omega)) rfl rfl ?_
      refine WL.val (Jw rfl rfl rfl (by omega) (by show _ <= (64 : Int); omega) rfl) rfl rfl ?_
      refine WL.val (XZ (r := Qb (XK D.length) k) rfl Tryz.underlying47 Tryz.underlying5 rfl ((E4 _).trans (QcV _ _ (by omega)))) rfl rfl ?_
      refine WL.get (V3 (r := e8 (Qb (XK D.length) k)) rfl Xg (by decide) (by decide) rfl rfl rfl) rfl rfl ?_
      rintro x58 W59 ⟨k61, b60, z62⟩
      replace h1 := h1.below b60
      replace hT := hT.below b60
      replace hC := hC.below b60
      replace h5 := h5.below b60
      replace k17 := k17.below b60
      replace hB := Qk hB b60
      replace hL := LL.below hL b60
      have hx := k61.rd (L := []) (by simp)
      refine WL.get (Jz (base := W15.heap.size) rfl Xg rfl rfl h5 hx (J6 [Qb (XK D.length) k]) (by simp [maxLen]; omega) (by simp; omega) (Below.size hC)) rfl rfl ?_
      rintro x63 W64 ⟨h5, b65⟩
      replace h5 : Yp 1 W15.heap.size ((((D ++ 128 :: List.replicate j 0) ++ (XK D.length).take k) ++ [Qb (XK D.length) k]).map e8) x63 W64 := by rw [List.map_append]; exact h5
      replace hC : XY W15 (w.heap.size :: L) W64 := Below.trans hC b65
      replace h1 := zh1.below hC
      replace hT := zhT.below hC
      replace k17 := zk17.below hC
      replace hB := Qk zhB hC
      replace hL := LL.below zhL hC
      refine WL.val (Qi rfl rfl) rfl rfl ?_
      refine WL.nil ?_
      refine hK57 ?_
      refine WC.region ?_
      refine WL.val (Qe rfl rfl) rfl rfl ?_
      refine WL.val (X2 (r := (56 - 8 * ((k + 1 : Nat) : Int))) rfl rfl rfl (by rw [QD (by omega)]; omega)) rfl rfl ?_
      refine WL.val (Qi rfl rfl) rfl rfl ?_
      refine WL.nil ?_
      rw [show (((D ++ 128 :: List.replicate j 0) ++ (XK D.length).take k) ++ [Qb (XK D.length) k]) = (D ++ 128 :: List.replicate j 0) ++ (XK D.length).take (k + 1) from by rw [ZM _ _ (by rw [Yi]; omega), List.append_assoc]] at h5
      exact hK52 (k + 1) x63 ⟨(by omega), hB, hL, h1, hT, hC, h5, k17⟩ (by omega) (by repeat first | exact trivial | exact And.intro rfl trivial | refine And.intro rfl ?_ | refine And.intro (congrArg (fun z : Int => some (Value.int .i64 z)) (by omega)) ?_ | refine And.intro (congrArg (fun z : Bool => some (Value.bool z)) (by first | exact (decide_eq_true (by omega)).symm | exact (decide_eq_false (by omega)).symm)) ?_)
    .
      replace c56 := of_decide_eq_false c56
      refine WC.exit ?_
      refine hK50 ?_
      refine WC.seq fun K66 hK66 => ?_
      have hfe : ((D ++ 128 :: List.replicate j 0) ++ (XK D.length).take k) = (Xt D) := by rw [DM, hje, List.take_of_length_le (by rw [Yi]; omega)]
      rw [hfe] at h5
      have hA : Zh 1 (w.heap.size :: L) W53 ov2 ((Xt D).map e8) := h5.rd zhL
      have hFl : (Xt D).length = QL D.length := QcY D
      have hFb : Qh (Xt D) := DN hDb
      have hFm : ((Xt D).map e8).length = (Xt D).length := List.length_map _
      refine WC.region ?_
      refine WL.get (Z0 (cs := Q6 (List.replicate 8 0)) rfl UI Gj) rfl rfl ?_
      rintro _ W67 ⟨rfl, k68, b69, z70⟩
      have n71 : w.heap.size ≠ W53.heap.size := Nat.ne_of_lt k17.lt
      have l72 := hB.size
      replace hT := hT.more b69 (Nat.le_refl _)
      replace hA := hA.more b69 (Nat.le_refl _)
      replace k17 := k17.below b69
      replace hB := Qk hB b69
      replace hL := LL.more hL z70
      refine WL.nil ?_
      refine hK66 ?_
      refine WC.seq fun K73 hK73 => ?_
      refine WC.seq fun K74 hK74 => ?_
      refine WC.region ?_
      refine WL.val (Qi rfl rfl) rfl rfl ?_
      refine WL.nil ?_
      refine hK74 ?_
      refine WC.block ?_
      replace k68 : Q8 W67 W53.heap.size (Q6 (Q2.take 0 ++ (List.replicate 8 (0 : Int)).drop 0)) := k68
      refine WC.loop (fun (i : Nat) => [(1, .int .i64 64), (5, .pointer (some ⟨w.heap.size, 0, none⟩)), (6, .int .i64 80), (7, ov2), (10, .pointer (some ⟨W53.heap.size, 0, none⟩)), (11, .int .i64 (i : Int))]) (fun (i : Nat) W => i <= 8 /\ Below w.heap.size w W /\ LL (W53.heap.size :: w.heap.size :: L) W /\ ZJ (W53.heap.size :: w.heap.size :: L) W /\ Zh 1 (W53.heap.size :: w.heap.size :: L) W ov2 ((Xt D).map e8) /\ Q8 W w.heap.size [.int .i64 28, .int .i64 34, .int .i64 39, .int .i64 14, .int .i64 18, .int .i64 41, .int .i64 1, .int .i64 8, .int .i64 7, .int .i64 19, .int .i64 61, .int .i64 6] /\ Q8 W W53.heap.size (Q6 (Q2.take i ++ (List.replicate 8 (0 : Int)).drop i))) (fun (i : Nat) => 8 - i) 0 (by repeat first | exact trivial | exact And.intro rfl trivial | refine And.intro rfl ?_ | refine And.intro (congrArg (fun z : Int => some (Value.int .i64 z)) (by omega)) ?_ | refine And.intro (congrArg (fun z : Bool => some (Value.bool z)) (by first | exact (decide_eq_true (by omega)).symm | exact (decide_eq_false (by omega)).symm)) ?_) ⟨(by decide), hB, hL, hT, hA, k17, k68⟩ ?_
      clear hT hA k17 k68 hB hL
      rintro K75 i W76 ⟨hi, hB, hL, hT, hA, k17, k68⟩ hK75
      refine WC.seq fun K77 hK77 => ?_
      refine WC.seq fun K78 hK78 => ?_
      refine WC.region ?_
      refine WL.val (Qe rfl rfl) rfl rfl ?_
      refine WL.val (ZF rfl rfl rfl) rfl rfl ?_
      refine WL.nil ?_
      refine hK78 ?_
      refine WC.cond rfl (fun c79 => ?_) (fun c79 => ?_)
      .
        replace c79 := of_decide_eq_true c79
        refine WC.skip ?_
        refine hK77 ?_
        refine WC.seq fun K80 hK80 => ?_
        refine WC.block ?_
        refine WC.region ?_
        refine WL.val (Qe rfl rfl) rfl rfl ?_
        refine WL.val (Qe rfl rfl) rfl rfl ?_
        refine WL.val (Qm (o1 := i) rfl Tryz.underlying68 Qd rfl rfl (by omega) (by first | (simp; done) | omega)) rfl rfl ?_
        refine WL.val (Qv rfl Ql rfl (hT.1.be i (by omega))) rfl rfl ?_
        refine WL.val (Qe rfl rfl) rfl rfl ?_
        refine WL.val (X2 (r := 0) rfl rfl rfl (by decide)) rfl rfl ?_
        refine WL.val (XZ (r := 0) rfl Tryz.underlying3 Tryz.underlying75 rfl (by decide)) rfl rfl ?_
        refine WL.val (Jw rfl rfl rfl (by decide) (by decide) ((Int.ediv_one _).trans (F3 i (by omega)).symm)) rfl rfl ?_
        refine WL.val (Qm (o1 := i) rfl Tryz.underlying68 Qd rfl rfl (by omega) (by first | (simp; done) | omega)) rfl rfl ?_
        refine WL.do (Xr (cs' := Q6 ((Q2.take i ++ (List.replicate 8 (0 : Int)).drop i).set i (Qb Q2 i))) (vs := [.int .u64 (Qb Q2 i)]) rfl Qd rfl rfl rfl (Qx rfl Yc) k68 rfl (by rw [X8, show (Q2.take i ++ (List.replicate 8 (0 : Int)).drop i).length = 8 from (ZZ Y2 JO hi)]; exact (by omega)) (QaN (by rw [show (Q2.take i ++ (List.replicate 8 (0 : Int)).drop i).length = 8 from (ZZ Y2 JO hi)]; exact (by omega)))) rfl ?_
        rintro _ W81 ⟨k83, o82⟩
        replace k17 := k17.other o82 n71
        clear k68
        replace hT := hT.only o82 (.head _)
        replace hA := hA.only o82 (.head _)
        replace hB := o82.below hB l72
        replace hL := LL.only hL o82
        refine WL.nil ?_
        refine hK80 ?_
        refine WC.region ?_
        refine WL.val (Qe rfl rfl) rfl rfl ?_
        refine WL.val (QW (r := (i : Int) + 1) rfl rfl rfl (QD (by omega))) rfl rfl ?_
        refine WL.val (Qi rfl rfl) rfl rfl ?_
        refine WL.nil ?_
        rw [Hy Y2 JO (by omega)] at k83
        exact hK75 (i + 1) ⟨(by omega), hB, hL, hT, hA, k17, k83⟩ (by omega) (by repeat first | exact trivial | exact And.intro rfl trivial | refine And.intro rfl ?_ | refine And.intro (congrArg (fun z : Int => some (Value.int .i64 z)) (by omega)) ?_ | refine And.intro (congrArg (fun z : Bool => some (Value.bool z)) (by first | exact (decide_eq_true (by omega)).symm | exact (decide_eq_false (by omega)).symm)) ?_)
      .
        replace c79 := of_decide_eq_false c79
        refine WC.exit ?_
        refine hK73 ?_
        refine WC.seq fun K84 hK84 => ?_
        have hi8 : i = 8 := by omega
        subst hi8
        replace k68 : Q8 W76 W53.heap.size (Q6 (QT Q2 (Xt D) 0)) := by have e : Q2.take 8 ++ (List.replicate 8 (0 : Int)).drop 8 = Q2 := (by rw [List.take_of_length_le (by rw [Y2]; exact Nat.le_refl _)]; simp); rw [e] at k68; exact k68
        refine WC.region ?_
        refine WL.val (Qe rfl rfl) rfl rfl ?_
        refine WL.val (Kx (r := 8) rfl rfl rfl (by omega) (by decide)) rfl rfl ?_
        refine WL.val (Qi rfl rfl) rfl rfl ?_
        refine WL.nil ?_
        refine hK84 ?_
        refine WC.seq fun K85 hK85 => ?_
        refine WC.seq fun K86 hK86 => ?_
        refine WC.region ?_
        refine WL.val (Qi rfl rfl) rfl rfl ?_
        refine WL.nil ?_
        refine hK86 ?_
        refine WC.block ?_
        refine WC.loop (fun (q : Nat) => [(1, .int .i64 64), (5, .pointer (some ⟨w.heap.size, 0, none⟩)), (6, .int .i64 80), (7, ov2), (10, .pointer (some ⟨W53.heap.size, 0, none⟩)), (12, .int .i64 8), (13, .int .i64 ((q * 128 : Nat) : Int))]) (fun (q : Nat) W => q * 128 <= QL D.length /\ Below w.heap.size w W /\ LL (W53.heap.size :: w.heap.size :: L) W /\ ZJ (W53.heap.size :: w.heap.size :: L) W /\ Zh 1 (W53.heap.size :: w.heap.size :: L) W ov2 ((Xt D).map e8) /\ Q8 W w.heap.size [.int .i64 28, .int .i64 34, .int .i64 39, .int .i64 14, .int .i64 18, .int .i64 41, .int .i64 1, .int .i64 8, .int .i64 7, .int .i64 19, .int .i64 61, .int .i64 6] /\ Q8 W W53.heap.size (Q6 (QT Q2 (Xt D) q))) (fun (q : Nat) => QL D.length - q * 128) 0 (by repeat first | exact trivial | exact And.intro rfl trivial | refine And.intro rfl ?_ | refine And.intro (congrArg (fun z : Int => some (Value.int .i64 z)) (by omega)) ?_ | refine And.intro (congrArg (fun z : Bool => some (Value.bool z)) (by first | exact (decide_eq_true (by omega)).symm | exact (decide_eq_false (by omega)).symm)) ?_) ⟨(by omega), hB, hL, hT, hA, k17, k68⟩ ?_
        clear hT hA k17 k68 hB hL
        rintro K87 q W88 ⟨hq, hB, hL, hT, hA, k17, k68⟩ hK87
        refine WC.seq fun K89 hK89 => ?_
        refine WC.seq fun K90 hK90 => ?_
        refine WC.region ?_
        refine WL.val (Qe rfl rfl) rfl rfl ?_
        refine WL.val (Qe rfl rfl) rfl rfl ?_
        refine WL.val (V4 rfl XO rfl hA) rfl rfl ?_
        refine WL.val (ZF rfl rfl rfl) rfl rfl ?_
        refine WL.nil ?_
        refine hK90 ?_
        refine WC.cond rfl (fun c91 => ?_) (fun c91 => ?_)
        .
          replace c91 := of_decide_eq_true c91
          refine WC.skip ?_
          refine hK89 ?_
          refine WC.seq fun K92 hK92 => ?_
          refine WC.block ?_
          refine WC.seq fun K93 hK93 => ?_
          have hpm := (GH D.length).2.2
          have hc_ := c91
          rw [hFm, hFl] at hc_
          have hqq : q * 128 + 128 <= QL D.length := by omega
          obtain ⟨zs, hzs⟩ : ∃ z, z = ((Xt D).drop (q * 128)).take 128 := ⟨_, rfl⟩
          have hzl : zs.length = 128 := by rw [hzs, List.length_take, List.length_drop, hFl]; omega
          have hzb : Qh zs := fun x hx => hFb x (by rw [hzs] at hx; exact List.mem_of_mem_drop (List.mem_of_mem_take hx))
          obtain ⟨st, hst⟩ : ∃ z, z = QT Q2 (Xt D) q := ⟨_, rfl⟩
          rw [<- hst] at k68
          have hsl : st.length = 8 := by rw [hst]; exact Gv _ _
          have hsi : ∀ x ∈ st, Xh x := by rw [hst]; exact Qb4 _ _
          refine WC.region ?_
          refine WL.get (Z0 (cs := Q6 (List.replicate 80 0)) rfl G1 EZ) rfl rfl ?_
          rintro _ W94 ⟨rfl, k95, b96, z97⟩
          have n98 : w.heap.size ≠ W88.heap.size := Nat.ne_of_lt k17.lt
          have n99 : W53.heap.size ≠ W88.heap.size := Nat.ne_of_lt k68.lt
          have l100 := hB.size
          replace hT := hT.more b96 (Nat.le_refl _)
          replace hA := hA.more b96 (Nat.le_refl _)
          replace k17 := k17.below b96
          replace k68 := k68.below b96
          replace hB := Qk hB b96
          replace hL := LL.more hL z97
          refine WL.nil ?_
          refine hK93 ?_
          refine WC.seq fun K101 hK101 => ?_
          refine WC.seq fun K102 hK102 => ?_
          refine WC.region ?_
          refine WL.val (Qi rfl rfl) rfl rfl ?_
          refine WL.nil ?_
          refine hK102 ?_
          refine WC.block ?_
          rw [<- Qa6 zs] at k95
          refine WC.loop (fun (i : Nat) => [(1, .int .i64 64), (5, .pointer (some ⟨w.heap.size, 0, none⟩)), (6, .int .i64 80), (7, ov2), (10, .pointer (some ⟨W53.heap.size, 0, none⟩)), (12, .int .i64 8), (13, .int .i64 ((q * 128 : Nat) : Int)), (14, .pointer (some ⟨W88.heap.size, 0, none⟩)), (15, .int .i64 (i : Int))]) (fun (i : Nat) W => i <= 128 /\ Below w.heap.size w W /\ LL (W88.heap.size :: W53.heap.size :: w.heap.size :: L) W /\ ZJ (W88.heap.size :: W53.heap.size :: w.heap.size :: L) W /\ Zh 1 (W88.heap.size :: W53.heap.size :: w.heap.size :: L) W ov2 ((Xt D).map e8) /\ Q8 W w.heap.size [.int .i64 28, .int .i64 34, .int .i64 39, .int .i64 14, .int .i64 18, .int .i64 41, .int .i64 1, .int .i64 8, .int .i64 7, .int .i64 19, .int .i64 61, .int .i64 6] /\ Q8 W W53.heap.size (Q6 st) /\ Q8 W W88.heap.size (Q6 (XH zs i))) (fun (i : Nat) => 128 - i) 0 (by repeat first | exact trivial | exact And.intro rfl trivial | refine And.intro rfl ?_ | refine And.intro (congrArg (fun z : Int => some (Value.int .i64 z)) (by omega)) ?_ | refine And.intro (congrArg (fun z : Bool => some (Value.bool z)) (by first | exact (decide_eq_true (by omega)).symm | exact (decide_eq_false (by omega)).symm)) ?_) ⟨Nat.zero_le _, hB, hL, hT, hA, k17, k68, k95⟩ ?_
          clear hT hA k17 k68 k95 hB hL
          rintro K103 i W104 ⟨hi, hB, hL, hT, hA, k17, k68, k95⟩ hK103
          refine WC.seq fun K105 hK105 => ?_
          refine WC.seq fun K106 hK106 => ?_
          refine WC.region ?_
          refine WL.val (Qe rfl rfl) rfl rfl ?_
          refine WL.val (Qe rfl rfl) rfl rfl ?_
          refine WL.val (Jy (r := 128) rfl rfl rfl (by decide)) rfl rfl ?_
          refine WL.val (ZF rfl rfl rfl) rfl rfl ?_
          refine WL.nil ?_
          refine hK106 ?_
          refine WC.cond rfl (fun c107 => ?_) (fun c107 => ?_)
          .
            replace c107 := of_decide_eq_true c107
            refine WC.skip ?_
            refine hK105 ?_
            refine WC.seq fun K108 hK108 => ?_
            refine WC.block ?_
            have ez : (Xt D)[q * 128 + i]? = some (Qb zs i) := by have e1 : Qb zs i = Qb (Xt D) (q * 128 + i) := (by rw [hzs]; unfold Qb; rw [List.getElem?_take, if_pos (by omega), List.getElem?_drop]); rw [e1]; exact Qb0 (by omega)
            have hzi := XG (p := fun x => 0 <= x /\ x <= 255) (by decide) hzb i
            have hpl := Qe7 hzb hzl i (by omega)
            refine WC.drawM 17 [(some 98, .is (.int .i64 (i : Int))), (some 99, .is (.int .i64 8)), (some 100, .is (.int .i64 ((i : Int) / 8))), (some 101, .is (.int .i64 (i : Int))), (some 102, .is (.int .i64 8)), (some 103, .is (.int .i64 ((i : Int) / 8))), (some 104, .is (.pointer (some ⟨W88.heap.size, (i / 8), none⟩))), (some 105, .is (.int .u64 (Qb (XH zs i) (i / 8)))), (some 106, .is (.int .u64 (Qb (XH zs i) (i / 8) * 256))), (some 107, .is (ov2)), (some 108, .is (.int .i64 ((q * 128 : Nat) : Int))), (some 109, .is (.int .i64 (i : Int))), (some 110, .is (.int .i64 (((q * 128 : Nat) : Int) + (i : Int)))), (some 111, .by fun u W => PtR (W88.heap.size :: W53.heap.size :: w.heap.size :: L) W u [.int .u8 (Qb zs i)]), (some 112, .is (.int .u8 (Qb zs i))), (some 113, .is (.int .u64 (Qb zs i))), (some 114, .is (.int .u64 (Qb (XH zs i) (i / 8) * 256 + (Qb zs i))))] [[], [], [0, 1], [], [], [3, 4], [5], [6], [7], [], [], [], [10, 11], [9, 12], [13], [14], [8, 15]] (by kernel_rfl) (by kernel_rfl) (by kernel_rfl) (by kernel_rfl) (by kernel_rfl) (by kernel_rfl) (by kernel_rfl) ⟨fun _ _ _ hb h => h.below hb, trivial⟩ ?_ ?_
            .
              refine Qa.cons (fun Wd hd => ?_) ?_
              .
                exact DV.dr (Qe rfl rfl) ⟨Below.refl _ _, rfl⟩
              refine Qa.cons (fun Wd hd => ?_) ?_
              .
                exact DV.dr (Qe rfl rfl) ⟨Below.refl _ _, rfl⟩
              refine Qa.cons (fun Wd hd => ?_) ?_
              .
                exact DV.dr (Kx (r := (i : Int) / 8) rfl rfl rfl (by decide) (by rw [Int.tdiv_eq_ediv_of_nonneg (by omega)]; exact QD (by omega))) ⟨Below.refl _ _, rfl⟩
              refine Qa.cons (fun Wd hd => ?_) ?_
              .
                exact DV.dr (Qe rfl rfl) ⟨Below.refl _ _, rfl⟩
              refine Qa.cons (fun Wd hd => ?_) ?_
              .
                exact DV.dr (Qe rfl rfl) ⟨Below.refl _ _, rfl⟩
              refine Qa.cons (fun Wd hd => ?_) ?_
              .
                exact DV.dr (Kx (r := (i : Int) / 8) rfl rfl rfl (by decide) (by rw [Int.tdiv_eq_ediv_of_nonneg (by omega)]; exact QD (by omega))) ⟨Below.refl _ _, rfl⟩
              refine Qa.cons (fun Wd hd => ?_) ?_
              .
                exact DV.dr (Qm (o1 := (i / 8)) rfl Tryz.underlying125 Qd rfl rfl (by omega) (by first | (simp; done) | omega)) ⟨Below.refl _ _, rfl⟩
              refine Qa.cons (fun Wd hd => ?_) ?_
              .
                have k95 := k95.below hd
                exact DV.dr (Qv rfl Ql rfl (k95.cell (k := (i / 8)) (YG (by rw [show (XH zs i).length = 80 from (Zz _ _)]; exact (by omega))))) ⟨Below.refl _ _, rfl⟩
              refine Qa.cons (fun Wd hd => ?_) ?_
              .
                exact DV.dr (QhO (r := Qb (XH zs i) (i / 8) * 256) rfl rfl rfl (by decide) (by decide) (by rw [Q9, show (2 : Int) ^ (8 : Int).toNat = 256 from by decide]; omega)) ⟨Below.refl _ _, rfl⟩
              refine Qa.cons (fun Wd hd => ?_) ?_
              .
                exact DV.dr (Qe rfl rfl) ⟨Below.refl _ _, rfl⟩
              refine Qa.cons (fun Wd hd => ?_) ?_
              .
                exact DV.dr (Qe rfl rfl) ⟨Below.refl _ _, rfl⟩
              refine Qa.cons (fun Wd hd => ?_) ?_
              .
                exact DV.dr (Qe rfl rfl) ⟨Below.refl _ _, rfl⟩
              refine Qa.cons (fun Wd hd => ?_) ?_
              .
                exact DV.dr (QW (r := ((q * 128 : Nat) : Int) + (i : Int)) rfl rfl rfl (QD (by omega))) ⟨Below.refl _ _, rfl⟩
              refine Qa.cons (fun Wd hd => ?_) ?_
              .
                have hA := hA.below hd
                exact (Qem (q * 128 + i) rfl XO rfl rfl hA (by omega) (QeB ez)).mono (fun v W' h => ⟨by rw [<- h.1]; exact Below.refl _ _, by rw [<- h.1]; exact h.2⟩)
              refine Qa.cons (fun Wd hd => ?_) ?_
              .
                intro u27_13 p27_13
                exact DV.dr (QbJ rfl Qax rfl p27_13) ⟨Below.refl _ _, rfl⟩
              refine Qa.cons (fun Wd hd => ?_) ?_
              .
                exact DV.dr (XZ (r := (Qb zs i)) rfl Tryz.underlying5 Tryz.underlying47 rfl (Ka (by omega))) ⟨Below.refl _ _, rfl⟩
              refine Qa.cons (fun Wd hd => ?_) ?_
              .
                exact DV.dr (DW (r := Qb (XH zs i) (i / 8) * 256 + (Qb zs i)) rfl rfl rfl (Dt _ _ (by omega) (by omega))) ⟨Below.refl _ _, rfl⟩
              exact trivial
            .
              intro W109 b110
              intro u27_13 p27_13
              replace hT := hT.below b110
              replace hA := hA.below b110
              replace k17 := k17.below b110
              replace k68 := k68.below b110
              replace k95 := k95.below b110
              replace hB := Qk hB b110
              replace hL := LL.below hL b110
              refine WL.val (Qm (o1 := (i / 8)) rfl Tryz.underlying125 Qd rfl rfl (by omega) (by first | (simp; done) | omega)) rfl rfl ?_
              refine WL.do (Xr (cs' := Q6 ((XH zs i).set (i / 8) (Qb (XH zs i) (i / 8) * 256 + (Qb zs i)))) (vs := [.int .u64 (Qb (XH zs i) (i / 8) * 256 + (Qb zs i))]) rfl Qd rfl rfl rfl (Qx rfl Yc) k95 rfl (by rw [X8, show (XH zs i).length = 80 from (Zz _ _)]; exact (by omega)) (QaN (by rw [show (XH zs i).length = 80 from (Zz _ _)]; exact (by omega)))) rfl ?_
              rintro _ W111 ⟨k113, o112⟩
              replace k17 := k17.other o112 n98
              replace k68 := k68.other o112 n99
              clear k95
              replace hT := hT.only o112 (.head _)
              replace hA := hA.only o112 (.head _)
              replace p27_13 := p27_13.only o112 (.head _)
              replace hB := o112.below hB l100
              replace hL := LL.only hL o112
              refine WL.nil ?_
              refine hK108 ?_
              refine WC.region ?_
              refine WL.val (Qe rfl rfl) rfl rfl ?_
              refine WL.val (QW (r := (i : Int) + 1) rfl rfl rfl (QD (by omega))) rfl rfl ?_
              refine WL.val (Qi rfl rfl) rfl rfl ?_
              refine WL.nil ?_
              rw [Qa7 zs hzl i (by omega)] at k113
              exact hK103 (i + 1) ⟨(by omega), hB, hL, hT, hA, k17, k68, k113⟩ (by omega) (by repeat first | exact trivial | exact And.intro rfl trivial | refine And.intro rfl ?_ | refine And.intro (congrArg (fun z : Int => some (Value.int .i64 z)) (by omega)) ?_ | refine And.intro (congrArg (fun z : Bool => some (Value.bool z)) (by first | exact (decide_eq_true (by omega)).symm | exact (decide_eq_false (by omega)).symm)) ?_)
          .
            replace c107 := of_decide_eq_false c107
            refine WC.exit ?_
            refine hK101 ?_
            refine WC.seq fun K114 hK114 => ?_
            refine WC.seq fun K115 hK115 => ?_
            refine WC.region ?_
            refine WL.val (Qi rfl rfl) rfl rfl ?_
            refine WL.nil ?_
            refine hK115 ?_
            refine WC.block ?_
            have hi6 : i = 128 := by omega
            subst hi6
            rw [QcH zs hzl] at k95
            refine WC.loop (fun (k : Nat) => [(1, .int .i64 64), (5, .pointer (some ⟨w.heap.size, 0, none⟩)), (6, .int .i64 80), (7, ov2), (10, .pointer (some ⟨W53.heap.size, 0, none⟩)), (12, .int .i64 8), (13, .int .i64 ((q * 128 : Nat) : Int)), (14, .pointer (some ⟨W88.heap.size, 0, none⟩)), (16, .int .i64 ((k + 16 : Nat) : Int))]) (fun (k : Nat) W => k <= 64 /\ Below w.heap.size w W /\ LL (W88.heap.size :: W53.heap.size :: w.heap.size :: L) W /\ ZJ (W88.heap.size :: W53.heap.size :: w.heap.size :: L) W /\ Zh 1 (W88.heap.size :: W53.heap.size :: w.heap.size :: L) W ov2 ((Xt D).map e8) /\ Q8 W w.heap.size [.int .i64 28, .int .i64 34, .int .i64 39, .int .i64 14, .int .i64 18, .int .i64 41, .int .i64 1, .int .i64 8, .int .i64 7, .int .i64 19, .int .i64 61, .int .i64 6] /\ Q8 W W53.heap.size (Q6 st) /\ Q8 W W88.heap.size (Q6 (Qf zs k))) (fun (k : Nat) => 64 - k) 0 (by repeat first | exact trivial | exact And.intro rfl trivial | refine And.intro rfl ?_ | refine And.intro (congrArg (fun z : Int => some (Value.int .i64 z)) (by omega)) ?_ | refine And.intro (congrArg (fun z : Bool => some (Value.bool z)) (by first | exact (decide_eq_true (by omega)).symm | exact (decide_eq_false (by omega)).symm)) ?_) ⟨Nat.zero_le _, hB, hL, hT, hA, k17, k68, k95⟩ ?_
            clear hT hA k17 k68 k95 hB hL
            rintro K116 k W117 ⟨hk, hB, hL, hT, hA, k17, k68, k95⟩ hK116
            refine WC.seq fun K118 hK118 => ?_
            refine WC.seq fun K119 hK119 => ?_
            refine WC.region ?_
            refine WL.val (Qe rfl rfl) rfl rfl ?_
            refine WL.val (Qe rfl rfl) rfl rfl ?_
            refine WL.val (ZF rfl rfl rfl) rfl rfl ?_
            refine WL.nil ?_
            refine hK119 ?_
            refine WC.cond rfl (fun c120 => ?_) (fun c120 => ?_)
            .
              replace c120 := of_decide_eq_true c120
              refine WC.skip ?_
              refine hK118 ?_
              refine WC.seq fun K121 hK121 => ?_
              refine WC.block ?_
              have hsi2 := XG (p := Xh) Ze (UM hzb hzl k)
              refine WC.drawM 30 [(some 121, .is (.int .i64 ((k + 16 : Nat) : Int))), (some 122, .is (.int .i64 ((k + 16 : Nat) : Int))), (some 123, .is (.int .i64 (((k + 16 : Nat) : Int) - 16))), (some 124, .is (.pointer (some ⟨W88.heap.size, (k + 16 - 16), none⟩))), (some 125, .is (.int .u64 (Qb (Qf zs k) (k + 16 - 16)))), (some 126, .is (.int .i64 ((k + 16 : Nat) : Int))), (some 127, .is (.int .i64 (((k + 16 : Nat) : Int) - 15))), (some 128, .is (.pointer (some ⟨W88.heap.size, (k + 16 - 15), none⟩))), (some 129, .is (.int .u64 (Qb (Qf zs k) (k + 16 - 15)))), (some 130, .is (.pointer (some ⟨w.heap.size, 6, none⟩))), (some 131, .is (.agg #[.int .i64 1, .int .i64 8, .int .i64 7])), (some 132, .is (.int .i64 64)), (some 133, .is (.int .u64 (VC (Qb (Qf zs k) (k + 16 - 15))))), (some 134, .is (.int .u64 ((Qb (Qf zs k) (k + 16 - 16) + VC (Qb (Qf zs k) (k + 16 - 15))) % 18446744073709551616))), (some 135, .is (.int .i64 ((k + 16 : Nat) : Int))), (some 136, .is (.int .i64 (((k + 16 : Nat) : Int) - 7))), (some 137, .is (.pointer (some ⟨W88.heap.size, (k + 16 - 7), none⟩))), (some 138, .is (.int .u64 (Qb (Qf zs k) (k + 16 - 7)))), (some 139, .is (.int .u64 (((Qb (Qf zs k) (k + 16 - 16) + VC (Qb (Qf zs k) (k + 16 - 15))) % 18446744073709551616 + Qb (Qf zs k) (k + 16 - 7)) % 18446744073709551616))), (some 140, .is (.int .i64 ((k + 16 : Nat) : Int))), (some 141, .is (.int .i64 (((k + 16 : Nat) : Int) - 2))), (some 142, .is (.pointer (some ⟨W88.heap.size, (k + 16 - 2), none⟩))), (some 143, .is (.int .u64 (Qb (Qf zs k) (k + 16 - 2)))), (some 144, .is (.pointer (some ⟨w.heap.size, 9, none⟩))), (some 145, .is (.agg #[.int .i64 19, .int .i64 61, .int .i64 6])), (some 146, .is (.int .i64 64)), (some 147, .is (.int .u64 (UX (Qb (Qf zs k) (k + 16 - 2))))), (some 148, .is (.int .u64 ((((Qb (Qf zs k) (k + 16 - 16) + VC (Qb (Qf zs k) (k + 16 - 15))) % 18446744073709551616 + Qb (Qf zs k) (k + 16 - 7)) % 18446744073709551616 + UX (Qb (Qf zs k) (k + 16 - 2))) % 18446744073709551616))), (some 149, .is (.int .i64 64)), (some 150, .is (.int .u64 (YL (Qf zs k) (16 + k))))] [[], [], [1], [2], [3], [], [5], [6], [7], [], [9], [], [8, 10, 11], [4, 12], [], [14], [15], [16], [13, 17], [], [19], [20], [21], [], [23], [], [22, 24, 25, 12], [18, 26], [], [27, 28, 26]] (by kernel_rfl) (by kernel_rfl) (by kernel_rfl) (by kernel_rfl) (by kernel_rfl) (by kernel_rfl) (by kernel_rfl) (by exact trivial) ?_ ?_
              .
                refine Qa.cons (fun Wd hd => ?_) ?_
                .
                  exact DV.dr (Qe rfl rfl) ⟨Below.refl _ _, rfl⟩
                refine Qa.cons (fun Wd hd => ?_) ?_
                .
                  exact DV.dr (Qe rfl rfl) ⟨Below.refl _ _, rfl⟩
                refine Qa.cons (fun Wd hd => ?_) ?_
                .
                  exact DV.dr (X2 (r := ((k + 16 : Nat) : Int) - 16) rfl rfl rfl (QD (by omega))) ⟨Below.refl _ _, rfl⟩
                refine Qa.cons (fun Wd hd => ?_) ?_
                .
                  exact DV.dr (Qm (o1 := (k + 16 - 16)) rfl Tryz.underlying125 Qd rfl rfl (by omega) (by first | (simp; done) | omega)) ⟨Below.refl _ _, rfl⟩
                refine Qa.cons (fun Wd hd => ?_) ?_
                .
                  have k95 := k95.below hd
                  exact DV.dr (Qv rfl Ql rfl (k95.cell (k := (k + 16 - 16)) (YG (by rw [show (Qf zs k).length = 80 from (Xz _ _)]; exact (by omega))))) ⟨Below.refl _ _, rfl⟩
                refine Qa.cons (fun Wd hd => ?_) ?_
                .
                  exact DV.dr (Qe rfl rfl) ⟨Below.refl _ _, rfl⟩
                refine Qa.cons (fun Wd hd => ?_) ?_
                .
                  exact DV.dr (X2 (r := ((k + 16 : Nat) : Int) - 15) rfl rfl rfl (QD (by omega))) ⟨Below.refl _ _, rfl⟩
                refine Qa.cons (fun Wd hd => ?_) ?_
                .
                  exact DV.dr (Qm (o1 := (k + 16 - 15)) rfl Tryz.underlying125 Qd rfl rfl (by omega) (by first | (simp; done) | omega)) ⟨Below.refl _ _, rfl⟩
                refine Qa.cons (fun Wd hd => ?_) ?_
                .
                  have k95 := k95.below hd
                  exact DV.dr (Qv rfl Ql rfl (k95.cell (k := (k + 16 - 15)) (YG (by rw [show (Qf zs k).length = 80 from (Xz _ _)]; exact (by omega))))) ⟨Below.refl _ _, rfl⟩
                refine Qa.cons (fun Wd hd => ?_) ?_
                .
                  exact DV.dr (Qm (o1 := 6) rfl Tryz.underlying123 XP rfl rfl (by decide) rfl) ⟨Below.refl _ _, rfl⟩
                refine Qa.cons (fun Wd hd => ?_) ?_
                .
                  have k17 := k17.below hd
                  exact DV.dr (Zk (cs := [.int .i64 1, .int .i64 8, .int .i64 7]) rfl X5 rfl (k17.part 6 3) rfl) ⟨Below.refl _ _, rfl⟩
                refine Qa.cons (fun Wd hd => ?_) ?_
                .
                  exact DV.dr (Qe rfl rfl) ⟨Below.refl _ _, rfl⟩
                refine Qa.cons (fun Wd hd => ?_) ?_
                .
                  exact DR.mono (ZT rfl Tryz.func106 rfl rfl rfl ((show CV _ _ [_, _, _, _] _ (fun v _ => v = .int .u64 (VC (Qb (Qf zs k) (k + 16 - 15)))) from V5 (U5 (Qb (Qf zs k) (k + 16 - 15)) 1 8 7 Wd (hsi2 _) (by decide) (by decide) (by decide))))) (fun v W' ⟨h, hb⟩ => ⟨hb, (by rw [h]; exact rfl)⟩)
                refine Qa.cons (fun Wd hd => ?_) ?_
                .
                  exact DV.dr (QW rfl rfl rfl (Q9 _)) ⟨Below.refl _ _, rfl⟩
                refine Qa.cons (fun Wd hd => ?_) ?_
                .
                  exact DV.dr (Qe rfl rfl) ⟨Below.refl _ _, rfl⟩
                refine Qa.cons (fun Wd hd => ?_) ?_
                .
                  exact DV.dr (X2 (r := ((k + 16 : Nat) : Int) - 7) rfl rfl rfl (QD (by omega))) ⟨Below.refl _ _, rfl⟩
                refine Qa.cons (fun Wd hd => ?_) ?_
                .
                  exact DV.dr (Qm (o1 := (k + 16 - 7)) rfl Tryz.underlying125 Qd rfl rfl (by omega) (by first | (simp; done) | omega)) ⟨Below.refl _ _, rfl⟩
                refine Qa.cons (fun Wd hd => ?_) ?_
                .
                  have k95 := k95.below hd
                  exact DV.dr (Qv rfl Ql rfl (k95.cell (k := (k + 16 - 7)) (YG (by rw [show (Qf zs k).length = 80 from (Xz _ _)]; exact (by omega))))) ⟨Below.refl _ _, rfl⟩
                refine Qa.cons (fun Wd hd => ?_) ?_
                .
                  exact DV.dr (QW rfl rfl rfl (Q9 _)) ⟨Below.refl _ _, rfl⟩
                refine Qa.cons (fun Wd hd => ?_) ?_
                .
                  exact DV.dr (Qe rfl rfl) ⟨Below.refl _ _, rfl⟩
                refine Qa.cons (fun Wd hd => ?_) ?_
                .
                  exact DV.dr (X2 (r := ((k + 16 : Nat) : Int) - 2) rfl rfl rfl (QD (by omega))) ⟨Below.refl _ _, rfl⟩
                refine Qa.cons (fun Wd hd => ?_) ?_
                .
                  exact DV.dr (Qm (o1 := (k + 16 - 2)) rfl Tryz.underlying125 Qd rfl rfl (by omega) (by first | (simp; done) | omega)) ⟨Below.refl _ _, rfl⟩
                refine Qa.cons (fun Wd hd => ?_) ?_
                .
                  have k95 := k95.below hd
                  exact DV.dr (Qv rfl Ql rfl (k95.cell (k := (k + 16 - 2)) (YG (by rw [show (Qf zs k).length = 80 from (Xz _ _)]; exact (by omega))))) ⟨Below.refl _ _, rfl⟩
                refine Qa.cons (fun Wd hd => ?_) ?_
                .
                  exact DV.dr (Qm (o1 := 9) rfl Tryz.underlying123 XP rfl rfl (by decide) rfl) ⟨Below.refl _ _, rfl⟩
                refine Qa.cons (fun Wd hd => ?_) ?_
                .
                  have k17 := k17.below hd
                  exact DV.dr (Zk (cs := [.int .i64 19, .int .i64 61, .int .i64 6]) rfl X5 rfl (k17.part 9 3) rfl) ⟨Below.refl _ _, rfl⟩
                refine Qa.cons (fun Wd hd => ?_) ?_
                .
                  exact DV.dr (Qe rfl rfl) ⟨Below.refl _ _, rfl⟩
                refine Qa.cons (fun Wd hd => ?_) ?_
                .
                  exact DR.mono (ZT rfl Tryz.func106 rfl rfl rfl ((show CV _ _ [_, _, _, _] _ (fun v _ => v = .int .u64 (UX (Qb (Qf zs k) (k + 16 - 2)))) from V5 (U5 (Qb (Qf zs k) (k + 16 - 2)) 19 61 6 Wd (hsi2 _) (by decide) (by decide) (by decide))))) (fun v W' ⟨h, hb⟩ => ⟨hb, (by rw [h]; exact rfl)⟩)
                refine Qa.cons (fun Wd hd => ?_) ?_
                .
                  exact DV.dr (QW rfl rfl rfl (Q9 _)) ⟨Below.refl _ _, rfl⟩
                refine Qa.cons (fun Wd hd => ?_) ?_
                .
                  exact DV.dr (Qe rfl rfl) ⟨Below.refl _ _, rfl⟩
                refine Qa.cons (fun Wd hd => ?_) ?_
                .
                  exact DR.mono (ZT rfl Tryz.func105 rfl rfl rfl ((show CV _ _ [_, _] _ (fun v _ => v = .int .u64 (YL (Qf zs k) (16 + k))) from CV.mono (Yy (Zw ((((Qb (Qf zs k) (k + 16 - 16) + VC (Qb (Qf zs k) (k + 16 - 15))) % 18446744073709551616 + Qb (Qf zs k) (k + 16 - 7)) % 18446744073709551616 + UX (Qb (Qf zs k) (k + 16 - 2))) % 18446744073709551616) Wd (Y5 _))) fun v _ _ h => h.trans (congrArg (Value.int .u64) (show (((Qb (Qf zs k) (k + 16 - 16) + VC (Qb (Qf zs k) (k + 16 - 15))) % 18446744073709551616 + Qb (Qf zs k) (k + 16 - 7)) % 18446744073709551616 + UX (Qb (Qf zs k) (k + 16 - 2))) % 18446744073709551616 = YL (Qf zs k) (16 + k) from by rw [show 16 + k = k + 16 from Nat.add_comm _ _]; exact Qfo (Qf zs k) (k + 16) _ _ _ _ rfl rfl rfl rfl))))) (fun v W' ⟨h, hb⟩ => ⟨hb, (by rw [h]; exact rfl)⟩)
                exact trivial
              .
                intro W122 b123
                replace hT := hT.below b123
                replace hA := hA.below b123
                replace k17 := k17.below b123
                replace k68 := k68.below b123
                replace k95 := k95.below b123
                replace hB := Qk hB b123
                replace hL := LL.below hL b123
                refine WL.val (Qm (o1 := (k + 16)) rfl Tryz.underlying125 Qd rfl rfl (by omega) (by first | (simp; done) | omega)) rfl rfl ?_
                refine WL.do (Xr (cs' := Q6 ((Qf zs k).set (k + 16) (YL (Qf zs k) (16 + k)))) (vs := [.int .u64 (YL (Qf zs k) (16 + k))]) rfl Qd rfl rfl rfl (Qx rfl Yc) k95 rfl (by rw [X8, show (Qf zs k).length = 80 from (Xz _ _)]; exact (by omega)) (QaN (by rw [show (Qf zs k).length = 80 from (Xz _ _)]; exact (by omega)))) rfl ?_
                rintro _ W124 ⟨k126, o125⟩
                replace k17 := k17.other o125 n98
                replace k68 := k68.other o125 n99
                clear k95
                replace hT := hT.only o125 (.head _)
                replace hA := hA.only o125 (.head _)
                replace hB := o125.below hB l100
                replace hL := LL.only hL o125
                refine WL.nil ?_
                refine hK121 ?_
                refine WC.region ?_
                refine WL.val (Qe rfl rfl) rfl rfl ?_
                refine WL.val (QW (r := ((k + 1 + 16 : Nat) : Int)) rfl rfl rfl (by rw [QD (by omega)]; omega)) rfl rfl ?_
                refine WL.val (Qi rfl rfl) rfl rfl ?_
                refine WL.nil ?_
                replace k126 : Q8 W124 W88.heap.size (Q6 (Qf zs (k + 1))) := by rw [show k + 16 = 16 + k from Nat.add_comm _ _] at k126; exact k126
                exact hK116 (k + 1) ⟨(by omega), hB, hL, hT, hA, k17, k68, k126⟩ (by omega) (by repeat first | exact trivial | exact And.intro rfl trivial | refine And.intro rfl ?_ | refine And.intro (congrArg (fun z : Int => some (Value.int .i64 z)) (by omega)) ?_ | refine And.intro (congrArg (fun z : Bool => some (Value.bool z)) (by first | exact (decide_eq_true (by omega)).symm | exact (decide_eq_false (by omega)).symm)) ?_)
            .
              replace c120 := of_decide_eq_false c120
              refine WC.exit ?_
              refine hK114 ?_
              refine WC.seq fun K127 hK127 => ?_
              refine WC.region ?_
              refine WL.val (Zk rfl G4 rfl k68.range (by rw [X8]; exact hsl)) rfl rfl ?_
              refine WL.get (Z0 (cs := Q6 (List.replicate 8 0)) rfl UI Gj) rfl rfl ?_
              rintro _ W128 ⟨rfl, k129, b130, z131⟩
              have n132 : w.heap.size ≠ W117.heap.size := Nat.ne_of_lt k17.lt
              have n133 : W53.heap.size ≠ W117.heap.size := Nat.ne_of_lt k68.lt
              have n134 : W88.heap.size ≠ W117.heap.size := Nat.ne_of_lt k95.lt
              have l135 := hB.size
              replace hT := hT.more b130 (Nat.le_refl _)
              replace hA := hA.more b130 (Nat.le_refl _)
              replace k17 := k17.below b130
              replace k68 := k68.below b130
              replace k95 := k95.below b130
              replace hB := Qk hB b130
              replace hL := LL.more hL z131
              refine WL.do (EV (vs := (Q6 st)) rfl Y9 rfl rfl rfl (Qmp st) k129 (by rw [X8]; exact hsl) (by rw [X8, List.length_replicate])) rfl ?_
              rintro _ W136 ⟨k138, o137⟩
              replace k17 := k17.other o137 n132
              replace k68 := k68.other o137 n133
              replace k95 := k95.other o137 n134
              clear k129
              replace hT := hT.only o137 (.head _)
              replace hA := hA.only o137 (.head _)
              replace hB := o137.below hB l135
              replace hL := LL.only hL o137
              refine WL.nil ?_
              refine hK127 ?_
              refine WC.seq fun K139 hK139 => ?_
              refine WC.seq fun K140 hK140 => ?_
              refine WC.region ?_
              refine WL.val (Qi rfl rfl) rfl rfl ?_
              refine WL.nil ?_
              refine hK140 ?_
              refine WC.block ?_
              have hks : k = 64 := by omega
              subst hks
              replace k138 : Q8 W136 W117.heap.size [.int .u64 (Qr (Qf zs 64) (QE st) 0).a, .int .u64 (Qr (Qf zs 64) (QE st) 0).b, .int .u64 (Qr (Qf zs 64) (QE st) 0).c, .int .u64 (Qr (Qf zs 64) (QE st) 0).d, .int .u64 (Qr (Qf zs 64) (QE st) 0).e, .int .u64 (Qr (Qf zs 64) (QE st) 0).f, .int .u64 (Qr (Qf zs 64) (QE st) 0).g, .int .u64 (Qr (Qf zs 64) (QE st) 0).h] := by rw [Qku hsl] at k138; exact k138
              have hok := VX (m := Qf zs 64) (Qc6 hsi)
              refine WC.loop (fun (i : Nat) => [(1, .int .i64 64), (5, .pointer (some ⟨w.heap.size, 0, none⟩)), (6, .int .i64 80), (7, ov2), (10, .pointer (some ⟨W53.heap.size, 0, none⟩)), (12, .int .i64 8), (13, .int .i64 ((q * 128 : Nat) : Int)), (14, .pointer (some ⟨W88.heap.size, 0, none⟩)), (17, .pointer (some ⟨W117.heap.size, 0, none⟩)), (18, .int .i64 (i : Int))]) (fun (i : Nat) W => i <= 80 /\ Below w.heap.size w W /\ LL (W117.heap.size :: W88.heap.size :: W53.heap.size :: w.heap.size :: L) W /\ ZJ (W117.heap.size :: W88.heap.size :: W53.heap.size :: w.heap.size :: L) W /\ Zh 1 (W117.heap.size :: W88.heap.size :: W53.heap.size :: w.heap.size :: L) W ov2 ((Xt D).map e8) /\ Q8 W w.heap.size [.int .i64 28, .int .i64 34, .int .i64 39, .int .i64 14, .int .i64 18, .int .i64 41, .int .i64 1, .int .i64 8, .int .i64 7, .int .i64 19, .int .i64 61, .int .i64 6] /\ Q8 W W53.heap.size (Q6 st) /\ Q8 W W88.heap.size (Q6 (Qf zs 64)) /\ Q8 W W117.heap.size [.int .u64 ((Qr (Qf zs 64) (QE st) i).a), .int .u64 ((Qr (Qf zs 64) (QE st) i).b), .int .u64 ((Qr (Qf zs 64) (QE st) i).c), .int .u64 ((Qr (Qf zs 64) (QE st) i).d), .int .u64 ((Qr (Qf zs 64) (QE st) i).e), .int .u64 ((Qr (Qf zs 64) (QE st) i).f), .int .u64 ((Qr (Qf zs 64) (QE st) i).g), .int .u64 ((Qr (Qf zs 64) (QE st) i).h)]) (fun (i : Nat) => 80 - i) 0 (by repeat first | exact trivial | exact And.intro rfl trivial | refine And.intro rfl ?_ | refine And.intro (congrArg (fun z : Int => some (Value.int .i64 z)) (by omega)) ?_ | refine And.intro (congrArg (fun z : Bool => some (Value.bool z)) (by first | exact (decide_eq_true (by omega)).symm | exact (decide_eq_false (by omega)).symm)) ?_) ⟨Nat.zero_le _, hB, hL, hT, hA, k17, k68, k95, k138⟩ ?_
              clear hT hA k17 k68 k95 k138 hB hL
              rintro K141 i W142 ⟨hi, hB, hL, hT, hA, k17, k68, k95, k138⟩ hK141
              obtain ⟨ev, hev⟩ : ∃ e, e = (Qr (Qf zs 64) (QE st) i) := ⟨_, rfl⟩
              rw [<- hev] at k138
              have hokv := hok i
              rw [<- hev] at hokv
              refine WC.seq fun K143 hK143 => ?_
              refine WC.seq fun K144 hK144 => ?_
              refine WC.region ?_
              refine WL.val (Qe rfl rfl) rfl rfl ?_
              refine WL.val (Qe rfl rfl) rfl rfl ?_
              refine WL.val (ZF rfl rfl rfl) rfl rfl ?_
              refine WL.nil ?_
              refine hK144 ?_
              refine WC.cond rfl (fun c145 => ?_) (fun c145 => ?_)
              .
                replace c145 := of_decide_eq_true c145
                refine WC.skip ?_
                refine hK143 ?_
                refine WC.seq fun K146 hK146 => ?_
                refine WC.block ?_
                refine WC.seq fun K147 hK147 => ?_
                refine WC.drawM 35 ((some 158, .is (.pointer (some ⟨W117.heap.size, 7, none⟩))) :: (some 159, .is (.int .u64 ev.h)) :: (some 160, .is (.pointer (some ⟨W117.heap.size, 4, none⟩))) :: (some 161, .is (.int .u64 ev.e)) :: (some 162, .is (.pointer (some ⟨w.heap.size, 3, none⟩))) :: (some 163, .is (.agg #[.int .i64 14, .int .i64 18, .int .i64 41])) :: (some 164, .is (.int .i64 64)) :: (some 165, .is (.int .u64 (VM ev.e))) :: (some 166, .is (.int .u64 ((ev.h + VM ev.e) % 18446744073709551616))) :: (some 167, .is (.pointer (some ⟨W117.heap.size, 4, none⟩))) :: (some 168, .is (.int .u64 ev.e)) :: (some 169, .is (.pointer (some ⟨W117.heap.size, 5, none⟩))) :: (some 170, .is (.int .u64 ev.f)) :: (some 171, .is (.int .u64 (bits BinOp.and .u64 ev.e ev.f))) :: (some 172, .is (.pointer (some ⟨W117.heap.size, 4, none⟩))) :: (some 173, .is (.int .u64 ev.e)) :: (some 174, .is (.int .u64 (X0 ev.e))) :: (some 175, .is (.pointer (some ⟨W117.heap.size, 6, none⟩))) :: (some 176, .is (.int .u64 ev.g)) :: (some 177, .is (.int .u64 (bits BinOp.and .u64 (X0 ev.e) ev.g))) :: (some 178, .is (.int .u64 (bits BinOp.xor .u64 (bits BinOp.and .u64 ev.e ev.f) (bits BinOp.and .u64 (X0 ev.e) ev.g)))) :: (some 179, .is (.int .u64 (((ev.h + VM ev.e) % 18446744073709551616 + bits BinOp.xor .u64 (bits BinOp.and .u64 ev.e ev.f) (bits BinOp.and .u64 (X0 ev.e) ev.g)) % 18446744073709551616))) :: (some 180, .is (.int .i64 (i : Int))) :: (some 181, .is (.pointer (some ⟨3, i, none⟩))) :: (some 182, .is (.int .u64 (Qb Q7 i))) :: (some 183, .is (.int .i64 64)) :: (some 184, .is (.int .i64 0)) :: (some 185, .is (.int .u64 0)) :: (some 186, .is (.int .u64 (Qb Q7 i))) :: (some 187, .is (.int .u64 ((((ev.h + VM ev.e) % 18446744073709551616 + bits BinOp.xor .u64 (bits BinOp.and .u64 ev.e ev.f) (bits BinOp.and .u64 (X0 ev.e) ev.g)) % 18446744073709551616 + Qb Q7 i) % 18446744073709551616))) :: (some 188, .is (.int .i64 (i : Int))) :: (some 189, .is (.pointer (some ⟨W88.heap.size, i, none⟩))) :: (some 190, .is (.int .u64 (Qb (Qf zs 64) i))) :: (some 191, .is (.int .u64 (((((ev.h + VM ev.e) % 18446744073709551616 + bits BinOp.xor .u64 (bits BinOp.and .u64 ev.e ev.f) (bits BinOp.and .u64 (X0 ev.e) ev.g)) % 18446744073709551616 + Qb Q7 i) % 18446744073709551616 + Qb (Qf zs 64) i) % 18446744073709551616))) :: (some 192, .is (.int .i64 64)) :: []) [[], [0], [], [2], [], [4], [], [3, 5, 6], [1, 7], [], [9], [], [11], [10, 12], [], [14], [15], [], [17], [16, 18], [13, 19], [8, 20], [], [22], [23], [], [25], [26], [24, 27], [21, 28], [], [30], [31], [29, 32], []] (by kernel_rfl) (by kernel_rfl) (by kernel_rfl) (by kernel_rfl) (by kernel_rfl) (by kernel_rfl) (by kernel_rfl) (by exact trivial) ?_ ?_
                .
                  refine Qa.cons (fun Wd hd => ?_) ?_
                  .
                    exact DV.dr (Qm (o1 := 7) rfl Tryz.underlying68 Qd rfl rfl (by decide) rfl) ⟨Below.refl _ _, rfl⟩
                  refine Qa.cons (fun Wd hd => ?_) ?_
                  .
                    have k138 := k138.below hd
                    exact DV.dr (Qv rfl Ql rfl (k138.cell (k := 7) rfl)) ⟨Below.refl _ _, rfl⟩
                  refine Qa.cons (fun Wd hd => ?_) ?_
                  .
                    exact DV.dr (Qm (o1 := 4) rfl Tryz.underlying68 Qd rfl rfl (by decide) rfl) ⟨Below.refl _ _, rfl⟩
                  refine Qa.cons (fun Wd hd => ?_) ?_
                  .
                    have k138 := k138.below hd
                    exact DV.dr (Qv rfl Ql rfl (k138.cell (k := 4) rfl)) ⟨Below.refl _ _, rfl⟩
                  refine Qa.cons (fun Wd hd => ?_) ?_
                  .
                    exact DV.dr (Qm (o1 := 3) rfl Tryz.underlying123 XP rfl rfl (by decide) rfl) ⟨Below.refl _ _, rfl⟩
                  refine Qa.cons (fun Wd hd => ?_) ?_
                  .
                    have k17 := k17.below hd
                    exact DV.dr (Zk (cs := [.int .i64 14, .int .i64 18, .int .i64 41]) rfl X5 rfl (k17.part 3 3) rfl) ⟨Below.refl _ _, rfl⟩
                  refine Qa.cons (fun Wd hd => ?_) ?_
                  .
                    exact DV.dr (Qe rfl rfl) ⟨Below.refl _ _, rfl⟩
                  refine Qa.cons (fun Wd hd => ?_) ?_
                  .
                    exact DR.mono (ZT rfl Tryz.func106 rfl rfl rfl ((show CV _ _ [_, _, _, _] _ (fun v _ => v = .int .u64 (VM ev.e)) from V5 (Uo ev.e 14 18 41 Wd hokv.2.2.2.2.1 (by decide) (by decide) (by decide))))) (fun v W' ⟨h, hb⟩ => ⟨hb, (by rw [h]; exact rfl)⟩)
                  refine Qa.cons (fun Wd hd => ?_) ?_
                  .
                    exact DV.dr (QW rfl rfl rfl (Q9 _)) ⟨Below.refl _ _, rfl⟩
                  refine Qa.cons (fun Wd hd => ?_) ?_
                  .
                    exact DV.dr (Qm (o1 := 4) rfl Tryz.underlying68 Qd rfl rfl (by decide) rfl) ⟨Below.refl _ _, rfl⟩
                  refine Qa.cons (fun Wd hd => ?_) ?_
                  .
                    have k138 := k138.below hd
                    exact DV.dr (Qv rfl Ql rfl (k138.cell (k := 4) rfl)) ⟨Below.refl _ _, rfl⟩
                  refine Qa.cons (fun Wd hd => ?_) ?_
                  .
                    exact DV.dr (Qm (o1 := 5) rfl Tryz.underlying68 Qd rfl rfl (by decide) rfl) ⟨Below.refl _ _, rfl⟩
                  refine Qa.cons (fun Wd hd => ?_) ?_
                  .
                    have k138 := k138.below hd
                    exact DV.dr (Qv rfl Ql rfl (k138.cell (k := 5) rfl)) ⟨Below.refl _ _, rfl⟩
                  refine Qa.cons (fun Wd hd => ?_) ?_
                  .
                    exact DV.dr (ZG (r := bits BinOp.and .u64 ev.e ev.f) rfl rfl rfl rfl) ⟨Below.refl _ _, rfl⟩
                  refine Qa.cons (fun Wd hd => ?_) ?_
                  .
                    exact DV.dr (Qm (o1 := 4) rfl Tryz.underlying68 Qd rfl rfl (by decide) rfl) ⟨Below.refl _ _, rfl⟩
                  refine Qa.cons (fun Wd hd => ?_) ?_
                  .
                    have k138 := k138.below hd
                    exact DV.dr (Qv rfl Ql rfl (k138.cell (k := 4) rfl)) ⟨Below.refl _ _, rfl⟩
                  refine Qa.cons (fun Wd hd => ?_) ?_
                  .
                    exact DV.dr (QhL rfl rfl) ⟨Below.refl _ _, rfl⟩
                  refine Qa.cons (fun Wd hd => ?_) ?_
                  .
                    exact DV.dr (Qm (o1 := 6) rfl Tryz.underlying68 Qd rfl rfl (by decide) rfl) ⟨Below.refl _ _, rfl⟩
                  refine Qa.cons (fun Wd hd => ?_) ?_
                  .
                    have k138 := k138.below hd
                    exact DV.dr (Qv rfl Ql rfl (k138.cell (k := 6) rfl)) ⟨Below.refl _ _, rfl⟩
                  refine Qa.cons (fun Wd hd => ?_) ?_
                  .
                    exact DV.dr (ZG (r := bits BinOp.and .u64 (X0 ev.e) ev.g) rfl rfl rfl rfl) ⟨Below.refl _ _, rfl⟩
                  refine Qa.cons (fun Wd hd => ?_) ?_
                  .
                    exact DV.dr (VJ (r := bits BinOp.xor .u64 (bits BinOp.and .u64 ev.e ev.f) (bits BinOp.and .u64 (X0 ev.e) ev.g)) rfl rfl rfl rfl) ⟨Below.refl _ _, rfl⟩
                  refine Qa.cons (fun Wd hd => ?_) ?_
                  .
                    exact DV.dr (QW rfl rfl rfl (Q9 _)) ⟨Below.refl _ _, rfl⟩
                  refine Qa.cons (fun Wd hd => ?_) ?_
                  .
                    exact DV.dr (Qe rfl rfl) ⟨Below.refl _ _, rfl⟩
                  refine Qa.cons (fun Wd hd => ?_) ?_
                  .
                    exact DV.dr (Qm (o1 := i) rfl Tryz.underlying125 Qd rfl rfl (by omega) (by first | (simp; done) | omega)) ⟨Below.refl _ _, rfl⟩
                  refine Qa.cons (fun Wd hd => ?_) ?_
                  .
                    have hT := hT.below hd
                    exact DV.dr (Qv rfl Ql rfl (hT.1.ro i (by omega))) ⟨Below.refl _ _, rfl⟩
                  refine Qa.cons (fun Wd hd => ?_) ?_
                  .
                    exact DV.dr (Qe rfl rfl) ⟨Below.refl _ _, rfl⟩
                  refine Qa.cons (fun Wd hd => ?_) ?_
                  .
                    exact DV.dr (X2 (r := 0) rfl rfl rfl (by decide)) ⟨Below.refl _ _, rfl⟩
                  refine Qa.cons (fun Wd hd => ?_) ?_
                  .
                    exact DV.dr (XZ (r := 0) rfl Tryz.underlying3 Tryz.underlying75 rfl (by decide)) ⟨Below.refl _ _, rfl⟩
                  refine Qa.cons (fun Wd hd => ?_) ?_
                  .
                    exact DV.dr (Jw (r := Qb Q7 i) rfl rfl rfl (by decide) (by decide) (Int.ediv_one _)) ⟨Below.refl _ _, rfl⟩
                  refine Qa.cons (fun Wd hd => ?_) ?_
                  .
                    exact DV.dr (QW rfl rfl rfl (Q9 _)) ⟨Below.refl _ _, rfl⟩
                  refine Qa.cons (fun Wd hd => ?_) ?_
                  .
                    exact DV.dr (Qe rfl rfl) ⟨Below.refl _ _, rfl⟩
                  refine Qa.cons (fun Wd hd => ?_) ?_
                  .
                    exact DV.dr (Qm (o1 := i) rfl Tryz.underlying125 Qd rfl rfl (by omega) (by first | (simp; done) | omega)) ⟨Below.refl _ _, rfl⟩
                  refine Qa.cons (fun Wd hd => ?_) ?_
                  .
                    have k95 := k95.below hd
                    exact DV.dr (Qv rfl Ql rfl (k95.cell (k := i) (YG (by rw [show (Qf zs 64).length = 80 from (Xz _ _)]; exact (by omega))))) ⟨Below.refl _ _, rfl⟩
                  refine Qa.cons (fun Wd hd => ?_) ?_
                  .
                    exact DV.dr (QW rfl rfl rfl (Q9 _)) ⟨Below.refl _ _, rfl⟩
                  refine Qa.cons (fun Wd hd => ?_) ?_
                  .
                    exact DV.dr (Qe rfl rfl) ⟨Below.refl _ _, rfl⟩
                  exact trivial
                .
                  intro W148 b149
                  replace hT := hT.below b149
                  replace hA := hA.below b149
                  replace k17 := k17.below b149
                  replace k68 := k68.below b149
                  replace k95 := k95.below b149
                  replace k138 := k138.below b149
                  replace hB := Qk hB b149
                  replace hL := LL.below hL b149
                  refine WL.get (ZT rfl Tryz.func105 rfl rfl rfl ((show CV _ _ [_, _] _ (fun v _ => v = .int .u64 (YD (Qf zs 64) i ev)) from CV.mono (Yy (Zw (((((ev.h + VM ev.e) % 18446744073709551616 + bits BinOp.xor .u64 (bits BinOp.and .u64 ev.e ev.f) (bits BinOp.and .u64 (X0 ev.e) ev.g)) % 18446744073709551616 + Qb Q7 i) % 18446744073709551616 + Qb (Qf zs 64) i) % 18446744073709551616) W148 (Y5 _))) fun v _ _ h => h.trans (congrArg (Value.int .u64) (show ((((ev.h + VM ev.e) % 18446744073709551616 + bits BinOp.xor .u64 (bits BinOp.and .u64 ev.e ev.f) (bits BinOp.and .u64 (X0 ev.e) ev.g)) % 18446744073709551616 + Qb Q7 i) % 18446744073709551616 + Qb (Qf zs 64) i) % 18446744073709551616 = YD (Qf zs 64) i ev from QkN (Qf zs 64) i ev hokv))))) rfl rfl ?_
                  rintro _ W151 ⟨rfl, b150⟩
                  replace hT := hT.below b150
                  replace hA := hA.below b150
                  replace k17 := k17.below b150
                  replace k68 := k68.below b150
                  replace k95 := k95.below b150
                  replace k138 := k138.below b150
                  replace hB := Qk hB b150
                  replace hL := LL.below hL b150
                  refine WL.val (Qi rfl rfl) rfl rfl ?_
                  refine WL.nil ?_
                  refine hK147 ?_
                  refine WC.seq fun K152 hK152 => ?_
                  refine WC.drawM 25 [(some 194, .is (.pointer (some ⟨W117.heap.size, 0, none⟩))), (some 195, .is (.int .u64 ev.a)), (some 196, .is (.pointer (some ⟨w.heap.size, 0, none⟩))), (some 197, .is (.agg #[.int .i64 28, .int .i64 34, .int .i64 39])), (some 198, .is (.int .i64 64)), (some 199, .is (.int .u64 (JD ev.a))), (some 200, .is (.pointer (some ⟨W117.heap.size, 0, none⟩))), (some 201, .is (.int .u64 ev.a)), (some 202, .is (.pointer (some ⟨W117.heap.size, 1, none⟩))), (some 203, .is (.int .u64 ev.b)), (some 204, .is (.int .u64 (bits BinOp.and .u64 ev.a ev.b))), (some 205, .is (.pointer (some ⟨W117.heap.size, 0, none⟩))), (some 206, .is (.int .u64 ev.a)), (some 207, .is (.pointer (some ⟨W117.heap.size, 2, none⟩))), (some 208, .is (.int .u64 ev.c)), (some 209, .is (.int .u64 (bits BinOp.and .u64 ev.a ev.c))), (some 210, .is (.int .u64 (bits BinOp.xor .u64 (bits BinOp.and .u64 ev.a ev.b) (bits BinOp.and .u64 ev.a ev.c)))), (some 211, .is (.pointer (some ⟨W117.heap.size, 1, none⟩))), (some 212, .is (.int .u64 ev.b)), (some 213, .is (.pointer (some ⟨W117.heap.size, 2, none⟩))), (some 214, .is (.int .u64 ev.c)), (some 215, .is (.int .u64 (bits BinOp.and .u64 ev.b ev.c))), (some 216, .is (.int .u64 (bits BinOp.xor .u64 (bits BinOp.xor .u64 (bits BinOp.and .u64 ev.a ev.b) (bits BinOp.and .u64 ev.a ev.c)) (bits BinOp.and .u64 ev.b ev.c)))), (some 217, .is (.int .u64 ((JD ev.a + bits BinOp.xor .u64 (bits BinOp.xor .u64 (bits BinOp.and .u64 ev.a ev.b) (bits BinOp.and .u64 ev.a ev.c)) (bits BinOp.and .u64 ev.b ev.c)) % 18446744073709551616))), (some 218, .is (.int .i64 64))] [[], [0], [], [2], [], [1, 3, 4], [], [6], [], [8], [7, 9], [], [11], [], [13], [12, 14], [10, 15], [], [17], [], [19], [18, 20], [16, 21], [5, 22], []] (by kernel_rfl) (by kernel_rfl) (by kernel_rfl) (by kernel_rfl) (by kernel_rfl) (by kernel_rfl) (by kernel_rfl) (by exact trivial) ?_ ?_
                  .
                    refine Qa.cons (fun Wd hd => ?_) ?_
                    .
                      exact DV.dr (Qm (o1 := 0) rfl Tryz.underlying68 Qd rfl rfl (by decide) rfl) ⟨Below.refl _ _, rfl⟩
                    refine Qa.cons (fun Wd hd => ?_) ?_
                    .
                      have k138 := k138.below hd
                      exact DV.dr (Qv rfl Ql rfl (k138.cell (k := 0) rfl)) ⟨Below.refl _ _, rfl⟩
                    refine Qa.cons (fun Wd hd => ?_) ?_
                    .
                      exact DV.dr (Qm (o1 := 0) rfl Tryz.underlying123 XP rfl rfl (by decide) rfl) ⟨Below.refl _ _, rfl⟩
                    refine Qa.cons (fun Wd hd => ?_) ?_
                    .
                      have k17 := k17.below hd
                      exact DV.dr (Zk (cs := [.int .i64 28, .int .i64 34, .int .i64 39]) rfl X5 rfl (k17.part 0 3) rfl) ⟨Below.refl _ _, rfl⟩
                    refine Qa.cons (fun Wd hd => ?_) ?_
                    .
                      exact DV.dr (Qe rfl rfl) ⟨Below.refl _ _, rfl⟩
                    refine Qa.cons (fun Wd hd => ?_) ?_
                    .
                      exact DR.mono (ZT rfl Tryz.func106 rfl rfl rfl ((show CV _ _ [_, _, _, _] _ (fun v _ => v = .int .u64 (JD ev.a)) from V5 (Uo ev.a 28 34 39 Wd hokv.1 (by decide) (by decide) (by decide))))) (fun v W' ⟨h, hb⟩ => ⟨hb, (by rw [h]; exact rfl)⟩)
                    refine Qa.cons (fun Wd hd => ?_) ?_
                    .
                      exact DV.dr (Qm (o1 := 0) rfl Tryz.underlying68 Qd rfl rfl (by decide) rfl) ⟨Below.refl _ _, rfl⟩
                    refine Qa.cons (fun Wd hd => ?_) ?_
                    .
                      have k138 := k138.below hd
                      exact DV.dr (Qv rfl Ql rfl (k138.cell (k := 0) rfl)) ⟨Below.refl _ _, rfl⟩
                    refine Qa.cons (fun Wd hd => ?_) ?_
                    .
                      exact DV.dr (Qm (o1 := 1) rfl Tryz.underlying68 Qd rfl rfl (by decide) rfl) ⟨Below.refl _ _, rfl⟩
                    refine Qa.cons (fun Wd hd => ?_) ?_
                    .
                      have k138 := k138.below hd
                      exact DV.dr (Qv rfl Ql rfl (k138.cell (k := 1) rfl)) ⟨Below.refl _ _, rfl⟩
                    refine Qa.cons (fun Wd hd => ?_) ?_
                    .
                      exact DV.dr (ZG (r := bits BinOp.and .u64 ev.a ev.b) rfl rfl rfl rfl) ⟨Below.refl _ _, rfl⟩
                    refine Qa.cons (fun Wd hd => ?_) ?_
                    .
                      exact DV.dr (Qm (o1 := 0) rfl Tryz.underlying68 Qd rfl rfl (by decide) rfl) ⟨Below.refl _ _, rfl⟩
                    refine Qa.cons (fun Wd hd => ?_) ?_
                    .
                      have k138 := k138.below hd
                      exact DV.dr (Qv rfl Ql rfl (k138.cell (k := 0) rfl)) ⟨Below.refl _ _, rfl⟩
                    refine Qa.cons (fun Wd hd => ?_) ?_
                    .
                      exact DV.dr (Qm (o1 := 2) rfl Tryz.underlying68 Qd rfl rfl (by decide) rfl) ⟨Below.refl _ _, rfl⟩
                    refine Qa.cons (fun Wd hd => ?_) ?_
                    .
                      have k138 := k138.below hd
                      exact DV.dr (Qv rfl Ql rfl (k138.cell (k := 2) rfl)) ⟨Below.refl _ _, rfl⟩
                    refine Qa.cons (fun Wd hd => ?_) ?_
                    .
                      exact DV.dr (ZG (r := bits BinOp.and .u64 ev.a ev.c) rfl rfl rfl rfl) ⟨Below.refl _ _, rfl⟩
                    refine Qa.cons (fun Wd hd => ?_) ?_
                    .
                      exact DV.dr (VJ (r := bits BinOp.xor .u64 (bits BinOp.and .u64 ev.a ev.b) (bits BinOp.and .u64 ev.a ev.c)) rfl rfl rfl rfl) ⟨Below.refl _ _, rfl⟩
                    refine Qa.cons (fun Wd hd => ?_) ?_
                    .
                      exact DV.dr (Qm (o1 := 1) rfl Tryz.underlying68 Qd rfl rfl (by decide) rfl) ⟨Below.refl _ _, rfl⟩
                    refine Qa.cons (fun Wd hd => ?_) ?_
                    .
                      have k138 := k138.below hd
                      exact DV.dr (Qv rfl Ql rfl (k138.cell (k := 1) rfl)) ⟨Below.refl _ _, rfl⟩
                    refine Qa.cons (fun Wd hd => ?_) ?_
                    .
                      exact DV.dr (Qm (o1 := 2) rfl Tryz.underlying68 Qd rfl rfl (by decide) rfl) ⟨Below.refl _ _, rfl⟩
                    refine Qa.cons (fun Wd hd => ?_) ?_
                    .
                      have k138 := k138.below hd
                      exact DV.dr (Qv rfl Ql rfl (k138.cell (k := 2) rfl)) ⟨Below.refl _ _, rfl⟩
                    refine Qa.cons (fun Wd hd => ?_) ?_
                    .
                      exact DV.dr (ZG (r := bits BinOp.and .u64 ev.b ev.c) rfl rfl rfl rfl) ⟨Below.refl _ _, rfl⟩
                    refine Qa.cons (fun Wd hd => ?_) ?_
                    .
                      exact DV.dr (VJ (r := bits BinOp.xor .u64 (bits BinOp.xor .u64 (bits BinOp.and .u64 ev.a ev.b) (bits BinOp.and .u64 ev.a ev.c)) (bits BinOp.and .u64 ev.b ev.c)) rfl rfl rfl rfl) ⟨Below.refl _ _, rfl⟩
                    refine Qa.cons (fun Wd hd => ?_) ?_
                    .
                      exact DV.dr (QW rfl rfl rfl (Q9 _)) ⟨Below.refl _ _, rfl⟩
                    refine Qa.cons (fun Wd hd => ?_) ?_
                    .
                      exact DV.dr (Qe rfl rfl) ⟨Below.refl _ _, rfl⟩
                    exact trivial
                  .
                    intro W153 b154
                    replace hT := hT.below b154
                    replace hA := hA.below b154
                    replace k17 := k17.below b154
                    replace k68 := k68.below b154
                    replace k95 := k95.below b154
                    replace k138 := k138.below b154
                    replace hB := Qk hB b154
                    replace hL := LL.below hL b154
                    refine WL.get (ZT rfl Tryz.func105 rfl rfl rfl ((show CV _ _ [_, _] _ (fun v _ => v = .int .u64 (Ke ev)) from CV.mono (Yy (Zw ((JD ev.a + bits BinOp.xor .u64 (bits BinOp.xor .u64 (bits BinOp.and .u64 ev.a ev.b) (bits BinOp.and .u64 ev.a ev.c)) (bits BinOp.and .u64 ev.b ev.c)) % 18446744073709551616) W153 (Y5 _))) fun v _ _ h => h.trans (congrArg (Value.int .u64) (show (JD ev.a + bits BinOp.xor .u64 (bits BinOp.xor .u64 (bits BinOp.and .u64 ev.a ev.b) (bits BinOp.and .u64 ev.a ev.c)) (bits BinOp.and .u64 ev.b ev.c)) % 18446744073709551616 = Ke ev from QkI ev hokv))))) rfl rfl ?_
                    rintro _ W156 ⟨rfl, b155⟩
                    replace hT := hT.below b155
                    replace hA := hA.below b155
                    replace k17 := k17.below b155
                    replace k68 := k68.below b155
                    replace k95 := k95.below b155
                    replace k138 := k138.below b155
                    replace hB := Qk hB b155
                    replace hL := LL.below hL b155
                    refine WL.val (Qi rfl rfl) rfl rfl ?_
                    refine WL.nil ?_
                    refine hK152 ?_
                    refine WC.drawM 23 [(some 220, .is (.int .u64 (YD (Qf zs 64) i ev))), (some 221, .is (.int .u64 (Ke ev))), (some 222, .is (.int .u64 ((YD (Qf zs 64) i ev + Ke ev) % 18446744073709551616))), (some 223, .is (.int .i64 64)), (some 224, .is (.int .u64 ((YD (Qf zs 64) i ev + Ke ev) % 18446744073709551616))), (some 225, .is (.pointer (some ⟨W117.heap.size, 0, none⟩))), (some 226, .is (.int .u64 ev.a)), (some 227, .is (.pointer (some ⟨W117.heap.size, 1, none⟩))), (some 228, .is (.int .u64 ev.b)), (some 229, .is (.pointer (some ⟨W117.heap.size, 2, none⟩))), (some 230, .is (.int .u64 ev.c)), (some 231, .is (.pointer (some ⟨W117.heap.size, 3, none⟩))), (some 232, .is (.int .u64 ev.d)), (some 233, .is (.int .u64 (YD (Qf zs 64) i ev))), (some 234, .is (.int .u64 ((ev.d + YD (Qf zs 64) i ev) % 18446744073709551616))), (some 235, .is (.int .i64 64)), (some 236, .is (.int .u64 ((ev.d + YD (Qf zs 64) i ev) % 18446744073709551616))), (some 237, .is (.pointer (some ⟨W117.heap.size, 4, none⟩))), (some 238, .is (.int .u64 ev.e)), (some 239, .is (.pointer (some ⟨W117.heap.size, 5, none⟩))), (some 240, .is (.int .u64 ev.f)), (some 241, .is (.pointer (some ⟨W117.heap.size, 6, none⟩))), (some 242, .is (.int .u64 ev.g))] [[], [], [0, 1], [], [2, 3], [], [5], [], [7], [], [9], [], [11], [], [12, 13], [], [14, 15, 4], [], [17], [], [19], [], [21]] (by kernel_rfl) (by kernel_rfl) (by kernel_rfl) (by kernel_rfl) (by kernel_rfl) (by kernel_rfl) (by kernel_rfl) (by exact trivial) ?_ ?_
                    .
                      refine Qa.cons (fun Wd hd => ?_) ?_
                      .
                        exact DV.dr (Qe rfl rfl) ⟨Below.refl _ _, rfl⟩
                      refine Qa.cons (fun Wd hd => ?_) ?_
                      .
                        exact DV.dr (Qe rfl rfl) ⟨Below.refl _ _, rfl⟩
                      refine Qa.cons (fun Wd hd => ?_) ?_
                      .
                        exact DV.dr (QW rfl rfl rfl (Q9 _)) ⟨Below.refl _ _, rfl⟩
                      refine Qa.cons (fun Wd hd => ?_) ?_
                      .
                        exact DV.dr (Qe rfl rfl) ⟨Below.refl _ _, rfl⟩
                      refine Qa.cons (fun Wd hd => ?_) ?_
                      .
                        exact DR.mono (ZT rfl Tryz.func105 rfl rfl rfl ((show CV _ _ [_, _] _ (fun v _ => v = .int .u64 ((YD (Qf zs 64) i ev + Ke ev) % 18446744073709551616)) from CV.mono (Yy (Zw ((YD (Qf zs 64) i ev + Ke ev) % 18446744073709551616) Wd (Y5 _))) fun v _ _ h => h.trans (congrArg (Value.int .u64) (show (YD (Qf zs 64) i ev + Ke ev) % 18446744073709551616 = (YD (Qf zs 64) i ev + Ke ev) % 18446744073709551616 from EX _ _))))) (fun v W' ⟨h, hb⟩ => ⟨hb, (by rw [h]; exact rfl)⟩)
                      refine Qa.cons (fun Wd hd => ?_) ?_
                      .
                        exact DV.dr (Qm (o1 := 0) rfl Tryz.underlying68 Qd rfl rfl (by decide) rfl) ⟨Below.refl _ _, rfl⟩
                      refine Qa.cons (fun Wd hd => ?_) ?_
                      .
                        have k138 := k138.below hd
                        exact DV.dr (Qv rfl Ql rfl (k138.cell (k := 0) rfl)) ⟨Below.refl _ _, rfl⟩
                      refine Qa.cons (fun Wd hd => ?_) ?_
                      .
                        exact DV.dr (Qm (o1 := 1) rfl Tryz.underlying68 Qd rfl rfl (by decide) rfl) ⟨Below.refl _ _, rfl⟩
                      refine Qa.cons (fun Wd hd => ?_) ?_
                      .
                        have k138 := k138.below hd
                        exact DV.dr (Qv rfl Ql rfl (k138.cell (k := 1) rfl)) ⟨Below.refl _ _, rfl⟩
                      refine Qa.cons (fun Wd hd => ?_) ?_
                      .
                        exact DV.dr (Qm (o1 := 2) rfl Tryz.underlying68 Qd rfl rfl (by decide) rfl) ⟨Below.refl _ _, rfl⟩
                      refine Qa.cons (fun Wd hd => ?_) ?_
                      .
                        have k138 := k138.below hd
                        exact DV.dr (Qv rfl Ql rfl (k138.cell (k := 2) rfl)) ⟨Below.refl _ _, rfl⟩
                      refine Qa.cons (fun Wd hd => ?_) ?_
                      .
                        exact DV.dr (Qm (o1 := 3) rfl Tryz.underlying68 Qd rfl rfl (by decide) rfl) ⟨Below.refl _ _, rfl⟩
                      refine Qa.cons (fun Wd hd => ?_) ?_
                      .
                        have k138 := k138.below hd
                        exact DV.dr (Qv rfl Ql rfl (k138.cell (k := 3) rfl)) ⟨Below.refl _ _, rfl⟩
                      refine Qa.cons (fun Wd hd => ?_) ?_
                      .
                        exact DV.dr (Qe rfl rfl) ⟨Below.refl _ _, rfl⟩
                      refine Qa.cons (fun Wd hd => ?_) ?_
                      .
                        exact DV.dr (QW rfl rfl rfl (Q9 _)) ⟨Below.refl _ _, rfl⟩
                      refine Qa.cons (fun Wd hd => ?_) ?_
                      .
                        exact DV.dr (Qe rfl rfl) ⟨Below.refl _ _, rfl⟩
                      refine Qa.cons (fun Wd hd => ?_) ?_
                      .
                        exact DR.mono (ZT rfl Tryz.func105 rfl rfl rfl ((show CV _ _ [_, _] _ (fun v _ => v = .int .u64 ((ev.d + YD (Qf zs 64) i ev) % 18446744073709551616)) from CV.mono (Yy (Zw ((ev.d + YD (Qf zs 64) i ev) % 18446744073709551616) Wd (Y5 _))) fun v _ _ h => h.trans (congrArg (Value.int .u64) (show (ev.d + YD (Qf zs 64) i ev) % 18446744073709551616 = (ev.d + YD (Qf zs 64) i ev) % 18446744073709551616 from EX _ _))))) (fun v W' ⟨h, hb⟩ => ⟨hb, (by rw [h]; exact rfl)⟩)
                      refine Qa.cons (fun Wd hd => ?_) ?_
                      .
                        exact DV.dr (Qm (o1 := 4) rfl Tryz.underlying68 Qd rfl rfl (by decide) rfl) ⟨Below.refl _ _, rfl⟩
                      refine Qa.cons (fun Wd hd => ?_) ?_
                      .
                        have k138 := k138.below hd
                        exact DV.dr (Qv rfl Ql rfl (k138.cell (k := 4) rfl)) ⟨Below.refl _ _, rfl⟩
                      refine Qa.cons (fun Wd hd => ?_) ?_
                      .
                        exact DV.dr (Qm (o1 := 5) rfl Tryz.underlying68 Qd rfl rfl (by decide) rfl) ⟨Below.refl _ _, rfl⟩
                      refine Qa.cons (fun Wd hd => ?_) ?_
                      .
                        have k138 := k138.below hd
                        exact DV.dr (Qv rfl Ql rfl (k138.cell (k := 5) rfl)) ⟨Below.refl _ _, rfl⟩
                      refine Qa.cons (fun Wd hd => ?_) ?_
                      .
                        exact DV.dr (Qm (o1 := 6) rfl Tryz.underlying68 Qd rfl rfl (by decide) rfl) ⟨Below.refl _ _, rfl⟩
                      refine Qa.cons (fun Wd hd => ?_) ?_
                      .
                        have k138 := k138.below hd
                        exact DV.dr (Qv rfl Ql rfl (k138.cell (k := 6) rfl)) ⟨Below.refl _ _, rfl⟩
                      exact trivial
                    .
                      intro W157 b158
                      replace hT := hT.below b158
                      replace hA := hA.below b158
                      replace k17 := k17.below b158
                      replace k68 := k68.below b158
                      replace k95 := k95.below b158
                      replace k138 := k138.below b158
                      replace hB := Qk hB b158
                      replace hL := LL.below hL b158
                      refine WL.val (Xs rfl rfl (QkA _ _ _ _ _ _ _ _)) rfl rfl ?_
                      refine WL.do (Xr (cs' := [.int .u64 ((YD (Qf zs 64) i ev + Ke ev) % 18446744073709551616), .int .u64 ev.a, .int .u64 ev.b, .int .u64 ev.c, .int .u64 ((ev.d + YD (Qf zs 64) i ev) % 18446744073709551616), .int .u64 ev.e, .int .u64 ev.f, .int .u64 ev.g]) (vs := [.int .u64 ((YD (Qf zs 64) i ev + Ke ev) % 18446744073709551616), .int .u64 ev.a, .int .u64 ev.b, .int .u64 ev.c, .int .u64 ((ev.d + YD (Qf zs 64) i ev) % 18446744073709551616), .int .u64 ev.e, .int .u64 ev.f, .int .u64 ev.g]) rfl Y9 rfl rfl rfl (Qx rfl (Qx rfl (Qx rfl (Qx rfl (Qx rfl (Qx rfl (Qx rfl (Qx rfl Yc)))))))) k138 rfl (Nat.le_of_ble_eq_true rfl) rfl) rfl ?_
                      rintro _ W159 ⟨k161, o160⟩
                      replace k17 := k17.other o160 n132
                      replace k68 := k68.other o160 n133
                      replace k95 := k95.other o160 n134
                      clear k138
                      replace hT := hT.only o160 (.head _)
                      replace hA := hA.only o160 (.head _)
                      replace hB := o160.below hB l135
                      replace hL := LL.only hL o160
                      refine WL.nil ?_
                      refine hK146 ?_
                      refine WC.region ?_
                      refine WL.val (Qe rfl rfl) rfl rfl ?_
                      refine WL.val (QW (r := (i : Int) + 1) rfl rfl rfl (QD (by omega))) rfl rfl ?_
                      refine WL.val (Qi rfl rfl) rfl rfl ?_
                      refine WL.nil ?_
                      replace k161 : Q8 W159 W117.heap.size [.int .u64 (Qr (Qf zs 64) (QE st) (i + 1)).a, .int .u64 (Qr (Qf zs 64) (QE st) (i + 1)).b, .int .u64 (Qr (Qf zs 64) (QE st) (i + 1)).c, .int .u64 (Qr (Qf zs 64) (QE st) (i + 1)).d, .int .u64 (Qr (Qf zs 64) (QE st) (i + 1)).e, .int .u64 (Qr (Qf zs 64) (QE st) (i + 1)).f, .int .u64 (Qr (Qf zs 64) (QE st) (i + 1)).g, .int .u64 (Qr (Qf zs 64) (QE st) (i + 1)).h] := by show Q8 _ _ [.int .u64 (YU (Qf zs 64) i (Qr (Qf zs 64) (QE st) i)).a, .int .u64 (YU (Qf zs 64) i (Qr (Qf zs 64) (QE st) i)).b, .int .u64 (YU (Qf zs 64) i (Qr (Qf zs 64) (QE st) i)).c, .int .u64 (YU (Qf zs 64) i (Qr (Qf zs 64) (QE st) i)).d, .int .u64 (YU (Qf zs 64) i (Qr (Qf zs 64) (QE st) i)).e, .int .u64 (YU (Qf zs 64) i (Qr (Qf zs 64) (QE st) i)).f, .int .u64 (YU (Qf zs 64) i (Qr (Qf zs 64) (QE st) i)).g, .int .u64 (YU (Qf zs 64) i (Qr (Qf zs 64) (QE st) i)).h]; rw [<- hev]; exact k161
                      exact hK141 (i + 1) ⟨(by omega), hB, hL, hT, hA, k17, k68, k95, k161⟩ (by omega) (by repeat first | exact trivial | exact And.intro rfl trivial | refine And.intro rfl ?_ | refine And.intro (congrArg (fun z : Int => some (Value.int .i64 z)) (by omega)) ?_ | refine And.intro (congrArg (fun z : Bool => some (Value.bool z)) (by first | exact (decide_eq_true (by omega)).symm | exact (decide_eq_false (by omega)).symm)) ?_)
              .
                replace c145 := of_decide_eq_false c145
                refine WC.exit ?_
                refine hK139 ?_
                refine WC.seq fun K162 hK162 => ?_
                refine WC.region ?_
                refine WL.val (Qi rfl rfl) rfl rfl ?_
                refine WL.nil ?_
                refine hK162 ?_
                refine WC.block ?_
                have hi7 : i = 80 := by omega
                subst hi7
                replace k138 : Q8 W142 W117.heap.size (Q6 ev.list) := k138
                rw [hev] at k138
                replace k68 : Q8 W142 W53.heap.size (Q6 ((Xa st zs).take 0 ++ st.drop 0)) := by rw [List.take_zero, List.drop_zero, List.nil_append]; exact k68
                refine WC.loop (fun (i : Nat) => [(1, .int .i64 64), (5, .pointer (some ⟨w.heap.size, 0, none⟩)), (6, .int .i64 80), (7, ov2), (10, .pointer (some ⟨W53.heap.size, 0, none⟩)), (12, .int .i64 8), (13, .int .i64 ((q * 128 : Nat) : Int)), (17, .pointer (some ⟨W117.heap.size, 0, none⟩)), (21, .int .i64 (i : Int))]) (fun (i : Nat) W => i <= 8 /\ Below w.heap.size w W /\ LL (W117.heap.size :: W88.heap.size :: W53.heap.size :: w.heap.size :: L) W /\ ZJ (W117.heap.size :: W88.heap.size :: W53.heap.size :: w.heap.size :: L) W /\ Zh 1 (W117.heap.size :: W88.heap.size :: W53.heap.size :: w.heap.size :: L) W ov2 ((Xt D).map e8) /\ Q8 W w.heap.size [.int .i64 28, .int .i64 34, .int .i64 39, .int .i64 14, .int .i64 18, .int .i64 41, .int .i64 1, .int .i64 8, .int .i64 7, .int .i64 19, .int .i64 61, .int .i64 6] /\ Q8 W W53.heap.size (Q6 ((Xa st zs).take i ++ st.drop i)) /\ Q8 W W88.heap.size (Q6 (Qf zs 64)) /\ Q8 W W117.heap.size (Q6 ((Qr (Qf zs 64) (QE st) 80).list))) (fun (i : Nat) => 8 - i) 0 (by repeat first | exact trivial | exact And.intro rfl trivial | refine And.intro rfl ?_ | refine And.intro (congrArg (fun z : Int => some (Value.int .i64 z)) (by omega)) ?_ | refine And.intro (congrArg (fun z : Bool => some (Value.bool z)) (by first | exact (decide_eq_true (by omega)).symm | exact (decide_eq_false (by omega)).symm)) ?_) ⟨Nat.zero_le _, hB, hL, hT, hA, k17, k68, k95, k138⟩ ?_
                clear hT hA k17 k68 k95 k138 hB hL
                rintro K163 i W164 ⟨hi, hB, hL, hT, hA, k17, k68, k95, k138⟩ hK163
                refine WC.seq fun K165 hK165 => ?_
                refine WC.seq fun K166 hK166 => ?_
                refine WC.region ?_
                refine WL.val (Qe rfl rfl) rfl rfl ?_
                refine WL.val (ZF rfl rfl rfl) rfl rfl ?_
                refine WL.nil ?_
                refine hK166 ?_
                refine WC.cond rfl (fun c167 => ?_) (fun c167 => ?_)
                .
                  replace c167 := of_decide_eq_true c167
                  refine WC.skip ?_
                  refine hK165 ?_
                  refine WC.seq fun K168 hK168 => ?_
                  refine WC.block ?_
                  refine WC.drawM 10 [(some 248, .is (.int .i64 (i : Int))), (some 249, .is (.int .i64 (i : Int))), (some 250, .is (.pointer (some ⟨W53.heap.size, i, none⟩))), (some 251, .is (.int .u64 (Qb ((Xa st zs).take i ++ st.drop i) i))), (some 252, .is (.int .i64 (i : Int))), (some 253, .is (.pointer (some ⟨W117.heap.size, i, none⟩))), (some 254, .is (.int .u64 (Qb ((Qr (Qf zs 64) (QE st) 80).list) i))), (some 255, .is (.int .u64 ((Qb ((Xa st zs).take i ++ st.drop i) i + Qb ((Qr (Qf zs 64) (QE st) 80).list) i) % 18446744073709551616))), (some 256, .is (.int .i64 64)), (some 257, .is (.int .u64 (Qb (Xa st zs) i)))] [[], [], [1], [2], [], [4], [5], [3, 6], [], [7, 8]] (by kernel_rfl) (by kernel_rfl) (by kernel_rfl) (by kernel_rfl) (by kernel_rfl) (by kernel_rfl) (by kernel_rfl) (by exact trivial) ?_ ?_
                  .
                    refine Qa.cons (fun Wd hd => ?_) ?_
                    .
                      exact DV.dr (Qe rfl rfl) ⟨Below.refl _ _, rfl⟩
                    refine Qa.cons (fun Wd hd => ?_) ?_
                    .
                      exact DV.dr (Qe rfl rfl) ⟨Below.refl _ _, rfl⟩
                    refine Qa.cons (fun Wd hd => ?_) ?_
                    .
                      exact DV.dr (Qm (o1 := i) rfl Tryz.underlying68 Qd rfl rfl (by omega) (by first | (simp; done) | omega)) ⟨Below.refl _ _, rfl⟩
                    refine Qa.cons (fun Wd hd => ?_) ?_
                    .
                      have k68 := k68.below hd
                      exact DV.dr (Qv rfl Ql rfl (k68.cell (k := i) (YG (by rw [show ((Xa st zs).take i ++ st.drop i).length = 8 from (ZZ (Z7 _ _) hsl hi)]; exact (by omega))))) ⟨Below.refl _ _, rfl⟩
                    refine Qa.cons (fun Wd hd => ?_) ?_
                    .
                      exact DV.dr (Qe rfl rfl) ⟨Below.refl _ _, rfl⟩
                    refine Qa.cons (fun Wd hd => ?_) ?_
                    .
                      exact DV.dr (Qm (o1 := i) rfl Tryz.underlying68 Qd rfl rfl (by omega) (by first | (simp; done) | omega)) ⟨Below.refl _ _, rfl⟩
                    refine Qa.cons (fun Wd hd => ?_) ?_
                    .
                      have k138 := k138.below hd
                      exact DV.dr (Qv rfl Ql rfl (k138.cell (k := i) (YG (by rw [show ((Qr (Qf zs 64) (QE st) 80).list).length = 8 from rfl]; exact (by omega))))) ⟨Below.refl _ _, rfl⟩
                    refine Qa.cons (fun Wd hd => ?_) ?_
                    .
                      exact DV.dr (QW rfl rfl rfl (Q9 _)) ⟨Below.refl _ _, rfl⟩
                    refine Qa.cons (fun Wd hd => ?_) ?_
                    .
                      exact DV.dr (Qe rfl rfl) ⟨Below.refl _ _, rfl⟩
                    refine Qa.cons (fun Wd hd => ?_) ?_
                    .
                      exact DR.mono (ZT rfl Tryz.func105 rfl rfl rfl ((show CV _ _ [_, _] _ (fun v _ => v = .int .u64 (Qb (Xa st zs) i)) from CV.mono (Yy (Zw ((Qb ((Xa st zs).take i ++ st.drop i) i + Qb ((Qr (Qf zs 64) (QE st) 80).list) i) % 18446744073709551616) Wd (Y5 _))) fun v _ _ h => h.trans (congrArg (Value.int .u64) (show (Qb ((Xa st zs).take i ++ st.drop i) i + Qb ((Qr (Qf zs 64) (QE st) 80).list) i) % 18446744073709551616 = Qb (Xa st zs) i from by rw [Qhf (Z7 _ _) hsl (by omega), QeR _ _ _ (by omega)]))))) (fun v W' ⟨h, hb⟩ => ⟨hb, (by rw [h]; exact rfl)⟩)
                    exact trivial
                  .
                    intro W169 b170
                    replace hT := hT.below b170
                    replace hA := hA.below b170
                    replace k17 := k17.below b170
                    replace k68 := k68.below b170
                    replace k95 := k95.below b170
                    replace k138 := k138.below b170
                    replace hB := Qk hB b170
                    replace hL := LL.below hL b170
                    refine WL.val (Qm (o1 := i) rfl Tryz.underlying68 Qd rfl rfl (by omega) (by first | (simp; done) | omega)) rfl rfl ?_
                    refine WL.do (Xr (cs' := Q6 (((Xa st zs).take i ++ st.drop i).set i (Qb (Xa st zs) i))) (vs := [.int .u64 (Qb (Xa st zs) i)]) rfl Qd rfl rfl rfl (Qx rfl Yc) k68 rfl (by rw [X8, show ((Xa st zs).take i ++ st.drop i).length = 8 from (ZZ (Z7 _ _) hsl hi)]; exact (by omega)) (QaN (by rw [show ((Xa st zs).take i ++ st.drop i).length = 8 from (ZZ (Z7 _ _) hsl hi)]; exact (by omega)))) rfl ?_
                    rintro _ W171 ⟨k173, o172⟩
                    replace k17 := k17.other o172 n71
                    replace k95 := k95.other o172 n99.symm
                    replace k138 := k138.other o172 n133.symm
                    clear k68
                    replace hT := hT.only o172 (.tail _ (.tail _ (.head _)))
                    replace hA := hA.only o172 (.tail _ (.tail _ (.head _)))
                    replace hB := o172.below hB l72
                    replace hL := LL.only hL o172
                    refine WL.nil ?_
                    refine hK168 ?_
                    refine WC.region ?_
                    refine WL.val (Qe rfl rfl) rfl rfl ?_
                    refine WL.val (QW (r := (i : Int) + 1) rfl rfl rfl (QD (by omega))) rfl rfl ?_
                    refine WL.val (Qi rfl rfl) rfl rfl ?_
                    refine WL.nil ?_
                    rw [Hy (Z7 _ _) hsl (by omega)] at k173
                    exact hK163 (i + 1) ⟨(by omega), hB, hL, hT, hA, k17, k173, k95, k138⟩ (by omega) (by repeat first | exact trivial | exact And.intro rfl trivial | refine And.intro rfl ?_ | refine And.intro (congrArg (fun z : Int => some (Value.int .i64 z)) (by omega)) ?_ | refine And.intro (congrArg (fun z : Bool => some (Value.bool z)) (by first | exact (decide_eq_true (by omega)).symm | exact (decide_eq_false (by omega)).symm)) ?_)
                .
                  replace c167 := of_decide_eq_false c167
                  refine WC.exit ?_
                  refine hK92 ?_
                  have hi8 : i = 8 := by omega
                  subst hi8
                  replace k68 : Q8 W164 W53.heap.size (Q6 (QT Q2 (Xt D) (q + 1))) := by have e : (Xa st zs).take 8 ++ st.drop 8 = (Xa st zs) := (by rw [List.take_of_length_le (by rw [Z7]; exact Nat.le_refl _), List.drop_eq_nil_of_le (by omega), List.append_nil]); rw [e, hst, hzs] at k68; exact k68
                  refine WC.region ?_
                  refine WL.val (Qe rfl rfl) rfl rfl ?_
                  refine WL.val (Qe rfl rfl) rfl rfl ?_
                  refine WL.val (Jy (r := 128) rfl rfl rfl (by decide)) rfl rfl ?_
                  refine WL.val (QW (r := (((q + 1) * 128 : Nat) : Int)) rfl rfl rfl (by rw [QD (by omega)]; omega)) rfl rfl ?_
                  refine WL.val (Qi rfl rfl) rfl rfl ?_
                  refine WL.nil ?_
                  replace hL := hL.less (fun x hx => (.tail _ (.tail _ hx)))
                  replace hT := hT.less (fun x hx => (.tail _ (.tail _ hx)))
                  replace hA := hA.less (fun x hx => (.tail _ (.tail _ hx)))
                  exact hK87 (q + 1) ⟨(by omega), hB, hL, hT, hA, k17, k68⟩ (by omega) (by repeat first | exact trivial | exact And.intro rfl trivial | refine And.intro rfl ?_ | refine And.intro (congrArg (fun z : Int => some (Value.int .i64 z)) (by omega)) ?_ | refine And.intro (congrArg (fun z : Bool => some (Value.bool z)) (by first | exact (decide_eq_true (by omega)).symm | exact (decide_eq_false (by omega)).symm)) ?_)
        .
          replace c91 := of_decide_eq_false c91
          refine WC.exit ?_
          refine hK85 ?_
          refine WC.seq fun K174 hK174 => ?_
          have hpm := (GH D.length).2.2
          have hc_ := c91
          rw [hFm, hFl] at hc_
          have hqe : q = QL D.length / 128 := by omega
          subst hqe
          obtain ⟨st, hst⟩ : ∃ z, z = (QT Q2 (Xt D) (QL D.length / 128)) := ⟨_, rfl⟩
          rw [<- hst] at k68
          have hsl : st.length = 8 := by rw [hst]; exact Gv _ _
          have zhT := hT
          have zk17 := k17
          have zk68 := k68
          have zhB := hB
          have zhL := hL
          have hC : XY W88 (W53.heap.size :: w.heap.size :: L) W88 := Below.refl _ _
          have h5 : Yp 1 W88.heap.size (((Xi st).take 0).map e8) (.slice none 0 0) W88 := .inl ⟨rfl, rfl, by decide⟩
          have htl : (Xi st).length = 64 := Qcf st
          refine WC.region ?_
          refine WL.val (Qi rfl rfl) rfl rfl ?_
          refine WL.nil ?_
          refine hK174 ?_
          refine WC.seq fun K175 hK175 => ?_
          refine WC.seq fun K176 hK176 => ?_
          refine WC.region ?_
          refine WL.val (Qi rfl rfl) rfl rfl ?_
          refine WL.nil ?_
          refine hK176 ?_
          refine WC.block ?_
          rw [show (0 : Nat) = 0 * 8 by omega] at h5
          refine WC.loop2 (fun (i : Nat) (ov3 : Value) => [(1, .int .i64 64), (10, .pointer (some ⟨W53.heap.size, 0, none⟩)), (22, ov3), (23, .int .i64 (i : Int))]) (fun (i : Nat) (ov3 : Value) W => i <= 8 /\ Below w.heap.size w W /\ LL (W53.heap.size :: w.heap.size :: L) W /\ ZJ (W53.heap.size :: w.heap.size :: L) W /\ XY W88 (W53.heap.size :: w.heap.size :: L) W /\ Yp 1 W88.heap.size (((Xi st).take (i * 8)).map e8) ov3 W /\ Q8 W w.heap.size [.int .i64 28, .int .i64 34, .int .i64 39, .int .i64 14, .int .i64 18, .int .i64 41, .int .i64 1, .int .i64 8, .int .i64 7, .int .i64 19, .int .i64 61, .int .i64 6] /\ Q8 W W53.heap.size (Q6 st)) (fun (i : Nat) (ov3 : Value) => 8 - i) 0 (.slice none 0 0) (by repeat first | exact trivial | exact And.intro rfl trivial | refine And.intro rfl ?_ | refine And.intro (congrArg (fun z : Int => some (Value.int .i64 z)) (by omega)) ?_ | refine And.intro (congrArg (fun z : Bool => some (Value.bool z)) (by first | exact (decide_eq_true (by omega)).symm | exact (decide_eq_false (by omega)).symm)) ?_) ⟨Nat.zero_le _, hB, hL, hT, hC, h5, k17, k68⟩ ?_
          clear hT hC h5 k17 k68 hB hL
          rintro K177 i ov3 W178 ⟨hi, hB, hL, hT, hC, h5, k17, k68⟩ hK177
          refine WC.seq fun K179 hK179 => ?_
          refine WC.seq fun K180 hK180 => ?_
          refine WC.region ?_
          refine WL.val (Qe rfl rfl) rfl rfl ?_
          refine WL.val (ZF rfl rfl rfl) rfl rfl ?_
          refine WL.nil ?_
          refine hK180 ?_
          refine WC.cond rfl (fun c181 => ?_) (fun c181 => ?_)
          .
            replace c181 := of_decide_eq_true c181
            refine WC.skip ?_
            refine hK179 ?_
            refine WC.seq fun K182 hK182 => ?_
            refine WC.block ?_
            refine WC.seq fun K183 hK183 => ?_
            refine WC.region ?_
            refine WL.val (Qe rfl rfl) rfl rfl ?_
            refine WL.val (X2 (r := 56) rfl rfl rfl (by decide)) rfl rfl ?_
            refine WL.val (Qi rfl rfl) rfl rfl ?_
            refine WL.nil ?_
            refine hK183 ?_
            refine WC.block ?_
            rw [<- Nat.add_zero (i * 8)] at h5
            refine WC.loop2 (fun (j : Nat) (ov4 : Value) => [(1, .int .i64 64), (10, .pointer (some ⟨W53.heap.size, 0, none⟩)), (23, .int .i64 (i : Int)), (22, ov4), (24, .int .i64 (56 - 8 * (j : Int)))]) (fun (j : Nat) (ov4 : Value) W => j <= 8 /\ Below w.heap.size w W /\ LL (W53.heap.size :: w.heap.size :: L) W /\ ZJ (W53.heap.size :: w.heap.size :: L) W /\ XY W88 (W53.heap.size :: w.heap.size :: L) W /\ Yp 1 W88.heap.size (((Xi st).take (i * 8 + j)).map e8) ov4 W /\ Q8 W w.heap.size [.int .i64 28, .int .i64 34, .int .i64 39, .int .i64 14, .int .i64 18, .int .i64 41, .int .i64 1, .int .i64 8, .int .i64 7, .int .i64 19, .int .i64 61, .int .i64 6] /\ Q8 W W53.heap.size (Q6 st)) (fun (j : Nat) (ov4 : Value) => 8 - j) 0 ov3 (by repeat first | exact trivial | exact And.intro rfl trivial | refine And.intro rfl ?_ | refine And.intro (congrArg (fun z : Int => some (Value.int .i64 z)) (by omega)) ?_ | refine And.intro (congrArg (fun z : Bool => some (Value.bool z)) (by first | exact (decide_eq_true (by omega)).symm | exact (decide_eq_false (by omega)).symm)) ?_) ⟨Nat.zero_le _, hB, hL, hT, hC, h5, k17, k68⟩ ?_
            clear hT hC h5 k17 k68 hB hL
            rintro K184 j ov4 W185 ⟨hj, hB, hL, hT, hC, h5, k17, k68⟩ hK184
            have hol3 : ((Xi st).take (i * 8 + j)).length <= 64 := (by rw [List.length_take]; omega)
            refine WC.seq fun K186 hK186 => ?_
            refine WC.seq fun K187 hK187 => ?_
            refine WC.region ?_
            refine WL.val (Qe rfl rfl) rfl rfl ?_
            refine WL.val (FP rfl rfl rfl) rfl rfl ?_
            refine WL.nil ?_
            refine hK187 ?_
            refine WC.cond rfl (fun c188 => ?_) (fun c188 => ?_)
            .
              replace c188 := of_decide_eq_true c188
              refine WC.skip ?_
              refine hK186 ?_
              refine WC.seq fun K189 hK189 => ?_
              refine WC.block ?_
              refine WC.region ?_
              refine WL.val (Qe rfl rfl) rfl rfl ?_
              refine WL.val (Qe rfl rfl) rfl rfl ?_
              refine WL.val (Qm (o1 := i) rfl Tryz.underlying68 Qd rfl rfl (by omega) (by first | (simp; done) | omega)) rfl rfl ?_
              refine WL.val (Qv rfl Ql rfl (k68.cell (k := i) (YG (by rw [show st.length = 8 from hsl]; exact (by omega))))) rfl rfl ?_
              refine WL.val (Qe rfl rfl) rfl rfl ?_
              refine WL.val (XZ (r := (56 - 8 * (j : Int))) rfl Tryz.underlying3 Tryz.underlying75 rfl (by rw [Q9]; omega)) rfl rfl ?_
              refine WL.val (Jw rfl rfl rfl (by omega) (by show _ <= (64 : Int); omega) rfl) rfl rfl ?_
              refine WL.val (XZ (r := Qb (Xi st) (i * 8 + j)) rfl Tryz.underlying47 Tryz.underlying5 rfl ((E4 _).trans (Qce st i j (by omega) (by omega)))) rfl rfl ?_
              refine WL.get (V3 (r := e8 (Qb (Xi st) (i * 8 + j))) rfl Xg (by decide) (by decide) rfl rfl rfl) rfl rfl ?_
              rintro x190 W191 ⟨k193, b192, z194⟩
              replace hT := hT.below b192
              replace hC := hC.below b192
              replace h5 := h5.below b192
              replace k17 := k17.below b192
              replace k68 := k68.below b192
              replace hB := Qk hB b192
              replace hL := LL.below hL b192
              have hx := k193.rd (L := []) (by simp)
              refine WL.get (Jz (base := W88.heap.size) rfl Xg rfl rfl h5 hx (J6 [Qb (Xi st) (i * 8 + j)]) (by simp [maxLen]; omega) (by simp; omega) (Below.size hC)) rfl rfl ?_
              rintro x195 W196 ⟨h5, b197⟩
              replace h5 : Yp 1 W88.heap.size ((((Xi st).take (i * 8 + j)) ++ [Qb (Xi st) (i * 8 + j)]).map e8) x195 W196 := by rw [List.map_append]; exact h5
              replace hC : XY W88 (W53.heap.size :: w.heap.size :: L) W196 := Below.trans hC b197
              replace hT := zhT.below hC
              replace k17 := zk17.below hC
              replace k68 := zk68.below hC
              replace hB := Qk zhB hC
              replace hL := LL.below zhL hC
              refine WL.val (Qi rfl rfl) rfl rfl ?_
              refine WL.nil ?_
              refine hK189 ?_
              refine WC.region ?_
              refine WL.val (Qe rfl rfl) rfl rfl ?_
              refine WL.val (X2 (r := (56 - 8 * ((j + 1 : Nat) : Int))) rfl rfl rfl (by rw [QD (by omega)]; omega)) rfl rfl ?_
              refine WL.val (Qi rfl rfl) rfl rfl ?_
              refine WL.nil ?_
              rw [show (((Xi st).take (i * 8 + j)) ++ [Qb (Xi st) (i * 8 + j)]) = ((Xi st).take (i * 8 + (j + 1))) from by rw [<- Nat.add_assoc, ZM _ _ (by rw [htl]; omega)]] at h5
              exact hK184 (j + 1) x195 ⟨(by omega), hB, hL, hT, hC, h5, k17, k68⟩ (by omega) (by repeat first | exact trivial | exact And.intro rfl trivial | refine And.intro rfl ?_ | refine And.intro (congrArg (fun z : Int => some (Value.int .i64 z)) (by omega)) ?_ | refine And.intro (congrArg (fun z : Bool => some (Value.bool z)) (by first | exact (decide_eq_true (by omega)).symm | exact (decide_eq_false (by omega)).symm)) ?_)
            .
              replace c188 := of_decide_eq_false c188
              refine WC.exit ?_
              refine hK182 ?_
              refine WC.region ?_
              refine WL.val (Qe rfl rfl) rfl rfl ?_
              refine WL.val (QW (r := (i : Int) + 1) rfl rfl rfl (QD (by omega))) rfl rfl ?_
              refine WL.val (Qi rfl rfl) rfl rfl ?_
              refine WL.nil ?_
              rw [show i * 8 + j = (i + 1) * 8 by omega] at h5
              exact hK177 (i + 1) ov4 ⟨(by omega), hB, hL, hT, hC, h5, k17, k68⟩ (by omega) (by repeat first | exact trivial | exact And.intro rfl trivial | refine And.intro rfl ?_ | refine And.intro (congrArg (fun z : Int => some (Value.int .i64 z)) (by omega)) ?_ | refine And.intro (congrArg (fun z : Bool => some (Value.bool z)) (by first | exact (decide_eq_true (by omega)).symm | exact (decide_eq_false (by omega)).symm)) ?_)
          .
            replace c181 := of_decide_eq_false c181
            refine WC.exit ?_
            refine hK175 ?_
            refine WC.seq fun K198 hK198 => ?_
            refine WC.region ?_
            refine WL.val (Qe rfl rfl) rfl rfl ?_
            refine WL.val (Qi rfl rfl) rfl rfl ?_
            refine WL.nil ?_
            refine hK198 ?_
            refine WC.ret fun a_ ha_ => ?_
            exact hQ (Qep rfl (.tmp rfl) (by have e8' : i = 8 := (by omega); subst e8'; have eS : Xw D = (Xi st).take (8 * 8) := (by rw [Qcj, <- hst, List.take_of_length_le (by rw [htl]; decide)]); rw [eS]; exact h5.rd (fun y hy => zhL y (.tail _ (.tail _ hy)))) hB ha_)

/-- The program's tables, the reference's too. -/
def gR : List QN := gS ++ [fG 2 (Xc.map (Value.int .u64)), fG 3 (Q7.map (Value.int .u64))]
theorem QhF {L : List Nat} {w : World} (h : Hs gR L w) : ZJ L w := by
  have h1 := (h.get (i := 5) rfl : (fG 2 (Xc.map (Value.int .u64))).h L w)
  have h2 := (h.get (i := 6) rfl : (fG 3 (Q7.map (Value.int .u64))).h L w)
  have hl1 : Xc.length = 8 := by decide
  have hl2 : Q7.length = 80 := by decide
  refine ⟨⟨fun k hk => ?_, fun k hk => ?_⟩, h1.1, h2.1⟩
  . have := h1.2.2 k (.int .u64 (Qb Xc k)) (by rw [List.getElem?_map]; unfold Qb; rw [List.getElem?_eq_getElem (by omega)]; rfl)
    rwa [Nat.zero_add] at this
  . have := h2.2.2 k (.int .u64 (Qb Q7 k)) (by rw [List.getElem?_map]; unfold Qb; rw [List.getElem?_eq_getElem (by omega)]; rfl)
    rwa [Nat.zero_add] at this
/-- A list, as far as it has been copied. -/
def cpB (N : Nat) (s : List Int) (k : Nat) : List Int := (List.range N).map fun j => if j < k then Qb s j else 0
theorem Z6 (N : Nat) (s : List Int) (k : Nat) : (cpB N s k).length = N := by simp [cpB]
theorem FX (N : Nat) (s : List Int) : cpB N s 0 = List.replicate N 0 := by
  unfold cpB
  refine List.ext_getElem (by simp) fun j q1 q2 => ?_
  simp only [List.getElem_map, List.getElem_range, Nat.not_lt_zero, if_false, List.getElem_replicate]
theorem D2 {N : Nat} {s : List Int} (h : s.length = N) : cpB N s N = s := by
  unfold cpB
  refine List.ext_getElem (by simp [h]) fun j q1 q2 => ?_
  simp only [List.getElem_map, List.getElem_range]
  rw [if_pos (by omega)]
  simp [Qb, List.getElem?_eq_getElem q2]
theorem FY {N : Nat} {s : List Int} {k : Nat} (hk : k < N) : (cpB N s k).set (Int.toNat (k : Int)) (s.getD (Int.toNat (k : Int)) 0) = cpB N s (k + 1) := by
  rw [Int.toNat_natCast, QJ]
  refine Zo hk (fun j hj hne => ?_) ?_
  . by_cases h : j < k
    . rw [if_pos (by omega), if_pos h]
    . rw [if_neg (by omega), if_neg h]
  . rw [if_pos (by omega)]
set_option maxHeartbeats 1000000 in
theorem Qf9 {D : List Int} (hD : Qh D) (hDm : D.length <= 10000) {a0 : Option Addr} {n0 c0 : Nat} : PV Tryz.prog (gR ++ [fB (.slice a0 n0 c0) D]) 37 [.o a0 n0 c0] (.a .u8 (Xw D) 64) := by
  have hsl := XS D
  refine PV.mk' Tryz.func37 rfl rfl rfl rfl fun w L hL hG => ?_
  refine S.enter Qw [.o a0 n0 c0] (gR ++ [fB (.slice a0 n0 c0) D]) Tryz.func37 rfl rfl rfl (fun _ => rfl) hL hG ?_
  refine S.go false rfl (by repeat' (first | exact True.intro | refine And.intro ?_ ?_ | assumption | omega | (dsimp only; omega) | (simp only [Nat.add_eq, Nat.mul_eq, Nat.sub_eq, SV.wd]; omega) | exact rfl)) ?_
  refine S.call (α := Option Addr × Nat) (sv := fun x => .o x.1 64 x.2) (fs := fun x => [fB (.slice x.1 64 x.2) (Xw D)]) (pr := fun _ => True) rfl rfl rfl rfl rfl rfl Tryz.func66 rfl rfl (fun ρ w h => ?_) (fun _ => rfl) (fun x _ => ?_)
  . have hf := h.f 7 rfl
    refine CV.mono (Qcw D _ w _ h.lt hf.1 (QhF h.hs.pre) hDm hD) fun v W _ hr => ?_
    obtain ⟨r0, r1, a, cap, e, r3, r4, r5, r6⟩ := hr
    have hl : ((Xw D).map e8).length = 64 := by simp [hsl]
    rw [hl] at e r3
    refine ⟨(a, cap), e, ⟨⟨⟨r0, r1, a, cap, ?_, ?_, r4, r5, r6⟩, fun a' n' c' e' ha => ?_⟩, trivial⟩, trivial⟩
    . show Value.slice a 64 cap = .slice a ((Xw D).map e8).length cap
      rw [hl]
    . show ((Xw D).map e8).length <= cap
      rw [hl]; exact r3
    . cases e'
      exact r5 ha
  . refine S.go false rfl (by repeat' (first | exact True.intro | refine And.intro ?_ ?_ | assumption | omega | (dsimp only; omega) | (simp only [Nat.add_eq, Nat.mul_eq, Nat.sub_eq, SV.wd]; omega) | exact rfl)) ?_
    refine S.slc 4 [.a .u8 (Xw D) 64] rfl (fun ρ w h => (h.f 8 rfl).1) (by rw [ZE]; simp [Qp, SV.cs]) (by simp [YC, SV.wd]) ?_ ⟨hsl, trivial⟩
    generalize Xw D = s at *
    refine S.recell 1 [.a .u8 (cpB 64 s 0) 64] rfl (fun ρ => by rw [FX]) ⟨Z6 64 s 0, trivial⟩ rfl ?_
    refine S.loop [2, 3, 4] (fun k : Nat => [(5, .i .i64 (k : Int))]) (fun k => [(0, [.a .u8 (List.replicate 64 0) 64]), (1, [.a .u8 (cpB 64 s k) 64])]) (fun _ => []) (fun k => k <= 64) (fun k => 64 - k) 0 rfl (fun _ => rfl) (fun _ => rfl) rfl ⟨⟨rfl, rfl⟩, trivial⟩ (by repeat' (first | exact True.intro | refine And.intro ?_ ?_ | exact Z6 64 s 0 | exact rfl)) (fun _ _ _ => trivial) (by omega) fun J k hk again => ?_
    have hk' : k <= 64 := hk
    have hlen := Z6 64 s k
    have hlen' := Z6 64 s (k + 1)
    refine S.g false rfl ?_
    refine S.cond rfl (fun c5 => ?_) (fun c5 => ?_)
    . have c' : k < 64 := by omega
      refine S.go false rfl (by repeat' (first | exact True.intro | refine And.intro ?_ ?_ | exact hlen | exact hsl | omega | (dsimp only; omega) | (simp only [List.length_set]; exact hlen) | exact rfl)) ?_
      refine S.again (again (k + 1) (show k + 1 <= 64 by omega) (show 64 - (k + 1) < 64 - k by omega)) ⟨⟨rfl, by omega⟩, rfl, rfl, rfl, trivial⟩ ?_ rfl rfl (fun x hx => hx) rfl (fun ρ W h => h.hs)
      repeat' (first | exact True.intro | refine And.intro ?_ ?_ | exact congrArg (fun z => SV.a .u8 z 64) (FY c') | exact hlen' | exact rfl)
    . obtain rfl : k = 64 := by omega
      rw [D2 hsl] at hlen ⊢
      refine S.go false rfl (by repeat' (first | exact True.intro | refine And.intro ?_ ?_ | exact hsl | exact rfl)) ?_
      exact S.retv rfl rfl rfl rfl rfl
theorem QaJ {D : List Int} (hD : Qh D) (hDm : D.length <= 10000) (k len cap : Nat) (hl : D.length = len) (hc : len <= cap) (hcm : cap <= maxLen) : PR Tryz.prog gR 37 [.y k 0 len cap] [(k, [.a .u8 (D ++ List.replicate (cap - len) 0) cap])] (.a .u8 (Xw D) 64) := PR.mk' Tryz.func37 rfl rfl rfl fun ρ w hG hm => by
  obtain ⟨b1, -⟩ := hm _ (.head _)
  simp only [Qp, SV.cs, SV.den, List.append_nil] at b1
  have ho : OwS 1 w (.slice (some ⟨ρ.b k, 0, none⟩) len cap) (D.map fun z => [Value.int .u8 z]) (ρ.b k) := ⟨Nat.zero_lt_one, fun r hr => by simp only [List.mem_map] at hr; obtain ⟨x, _, rfl⟩ := hr; rfl, cap, (List.replicate (cap - len) 0).map (Value.int .u8), by simp [hl], by simpa [hl] using hc, hcm, by simp [hl], by rw [ZE, <- List.map_append]; exact b1⟩
  have hf : (fB (.slice (some ⟨ρ.b k, 0, none⟩) len cap) D).h [] w := ⟨ho.rd (by simp), fun a n c e ha => by cases e; cases ha⟩
  have h := (Qf9 hD hDm (a0 := some ⟨ρ.b k, 0, none⟩) (n0 := len) (c0 := cap)).h w [] (LL.none w) (hG.app ⟨hf, trivial⟩)
  simp only [QO, SV.den] at h ⊢
  exact h
theorem Qcy {ρ : QS} {m : SM} {L0 : List Nat} {k : Nat} {c : Cl} (h : ZI m k = some c) : ∀ x ∈ [ρ.b k], x ∈ own ρ m L0 := fun x hx => by
  simp only [List.mem_singleton] at hx
  subst hx
  exact List.mem_append_left _ (List.mem_map_of_mem (f := fun x : Nat × Cl => ρ.b x.1) (Zu h))
set_option maxHeartbeats 1000000 in
theorem Qdz {A B C : List Int} (hA : Qh A) (hB : Qh B) (hC : Qh C) (hlen : A.length + B.length + C.length <= 10000) {a1 a2 a3 : Option Addr} {n1 n2 n3 c1 c2 c3 : Nat} : PV Tryz.prog (gR ++ [fB (.slice a1 n1 c1) A, fB (.slice a2 n2 c2) B, fB (.slice a3 n3 c3) C]) 22 [.o a1 n1 c1, .o a2 n2 c2, .o a3 n3 c3] (.a .u8 (Xf (Qq (Xw (A ++ B ++ C)) 64 % QA)) 32) := by
  have hD : Qh (A ++ B ++ C) := fun x hx => by
    rcases List.mem_append.1 hx with h | h
    . rcases List.mem_append.1 h with h | h
      . exact hA x h
      . exact hB x h
    . exact hC x h
  have hR := (Qgz (Yg (A ++ B ++ C)) (XS (A ++ B ++ C))).up (G' := gR ++ [fB (.slice a1 n1 c1) A, fB (.slice a2 n2 c2) B, fB (.slice a3 n3 c3) C]) (fun L w h => DL L w h.pre.pre)
  have hS := fun k cap h1 h2 => QaJ hD (by simp; omega) k (0 + A.length + B.length + C.length) cap (by simp; omega) h1 h2
  have hsl := XS (A ++ B ++ C)
  have hol := QP (Qq (Xw (A ++ B ++ C)) 64 % QA)
  refine PV.mk' Tryz.func22 rfl rfl rfl rfl fun w L hL hG => ?_
  refine S.enter Qw [.o a1 n1 c1, .o a2 n2 c2, .o a3 n3 c3] (gR ++ [fB (.slice a1 n1 c1) A, fB (.slice a2 n2 c2) B, fB (.slice a3 n3 c3) C]) Tryz.func22 rfl rfl rfl (fun _ => rfl) hL hG ?_
  refine S.g false rfl ?_
  refine S.recell 1 [.a .u8 [] 0] rfl (fun ρ => rfl) ⟨rfl, trivial⟩ rfl ?_
  refine S.app (bytes := 1) [] A rfl rfl rfl rfl (by kernel_rfl) rfl rfl rfl rfl rfl rfl rfl (Nat.le_refl _) (Nat.zero_le _) (fun ρ w h => Fg (h.f 7 rfl).1 (Qcy (c := [.a .u8 [] 0]) rfl)) (by unfold maxLen; omega) (by omega) (fun cap1 p1 p2 => ?_)
  refine S.g false rfl ?_
  refine S.app (bytes := 1) ([] ++ A) B rfl rfl rfl rfl (by kernel_rfl) rfl rfl rfl rfl rfl rfl (by simp) p1 p2 (fun ρ w h => Fg (h.f 8 rfl).1 (Qcy (c := [.a .u8 (([] ++ A) ++ List.replicate (cap1 - (0 + A.length)) 0) cap1]) rfl)) (by unfold maxLen; omega) (by omega) (fun cap2 p3 p4 => ?_)
  refine S.g false rfl ?_
  refine S.app (bytes := 1) ([] ++ A ++ B) C rfl rfl rfl rfl (by kernel_rfl) rfl rfl rfl rfl rfl rfl (by simp) p3 p4 (fun ρ w h => Fg (h.f 9 rfl).1 (Qcy (c := [.a .u8 (([] ++ A ++ B) ++ List.replicate (cap2 - (0 + A.length + B.length)) 0) cap2]) rfl)) (by unfold maxLen; omega) (by omega) (fun cap3 p5 p6 => ?_)
  refine S.g false rfl ?_
  have hS4 := hS 4 cap3 p5 p6
  refine S.cr [4] rfl rfl rfl rfl rfl rfl rfl hS4 ?_
  refine S.go false rfl (by repeat' (first | exact True.intro | refine And.intro ?_ ?_ | assumption | omega | (dsimp only; omega) | (simp only [Nat.add_eq, Nat.mul_eq, Nat.sub_eq, SV.wd]; omega) | exact rfl)) ?_
  refine S.cv rfl rfl rfl rfl rfl rfl hR ?_
  refine S.go false rfl (by repeat' (first | exact True.intro | refine And.intro ?_ ?_ | assumption | omega | (dsimp only; omega) | (simp only [Nat.add_eq, Nat.mul_eq, Nat.sub_eq, SV.wd]; omega) | exact rfl)) ?_
  exact S.retv rfl rfl rfl rfl rfl
theorem QiI {A B C : List Int} (hA : Qh A) (hal : A.length = 32) (hB : Qh B) (hbl : B.length = 32) (hC : Qh C) (hlen : C.length <= 9000) {a3 : Option Addr} {n3 c3 : Nat} (k1 k2 : Nat) : PR Tryz.prog (gR ++ [fB (.slice a3 n3 c3) C]) 22 [.y k1 0 32 32, .y k2 0 32 32, .o a3 n3 c3] [(k1, [.a .u8 A 32]), (k2, [.a .u8 B 32])] (.a .u8 (Xf (Qq (Xw (A ++ (B ++ C))) 64 % QA)) 32) := PR.mk' Tryz.func22 rfl rfl rfl fun ρ w hG hm => by
  have row : ∀ (k : Nat) (Z : List Int), Z.length = 32 -> Q8 w (ρ.b k) (Z.map (Value.int .u8)) -> (fB (.slice (some ⟨ρ.b k, 0, none⟩) 32 32) Z).h [] w := fun k Z hl hb => by
    have hr := Q8.rows (s := 1) (rows := Z.map fun z => [Value.int .u8 z]) (by rw [ZE]; exact hb) (by omega) (fun r hr => by simp only [List.mem_map] at hr; obtain ⟨x, _, rfl⟩ := hr; rfl) (by simp [hl, maxLen])
    rw [List.length_map, hl] at hr
    exact ⟨hr, fun a n c e ha => by cases e; cases ha⟩
  obtain ⟨b1, -⟩ := hm _ (.head _)
  obtain ⟨b2, -⟩ := hm _ (.tail _ (.head _))
  simp only [Qp, SV.cs, SV.den, List.append_nil] at b1 b2
  have h3 := (hG.get (i := 7) rfl : (fB (.slice a3 n3 c3) C).h [] w)
  have h := (Qdz hA hB hC (by omega) (a1 := some ⟨ρ.b k1, 0, none⟩) (n1 := 32) (c1 := 32) (a2 := some ⟨ρ.b k2, 0, none⟩) (n2 := 32) (c2 := 32) (a3 := a3) (n3 := n3) (c3 := c3)).h w [] (LL.none w) (hG.pre.app ⟨row k1 A hal b1, row k2 B hbl b2, h3, trivial⟩)
  simp only [QO, SV.den] at h ⊢
  rw [<- List.append_assoc]
  exact h
theorem Hp : Tryz.prog.underlying 49 = some (.array 5 47) := by kernel_rfl
theorem Kw {W : World} {name : String} {zs : List Int} {g : Nat} (h : Go.Lib.TabIs Tryz.prog W name .u64 zs) (hg : Tryz.prog.globalNamed name = some g) (h0 : 0 < zs.length) : (fG g (zs.map (Value.int .u64))).h [] W := by
  refine ⟨fun h => (by cases h), World.block_lt_of_cell? W _ (h.cell hg 0 h0), fun j v hv => ?_⟩
  rw [List.getElem?_map] at hv
  by_cases hj : j < zs.length
  . rw [List.getElem?_eq_getElem hj] at hv
    have e := Option.some.inj hv
    have := h.cell hg j hj
    rw [Nat.zero_add, this, <- e]
    simp [List.getD, hj]
  . rw [List.getElem?_eq_none (by omega)] at hv
    cases hv
theorem Qii {W : World} {rest : List (String × DataW Unit)} (h : laidMet Tryz.prog (("vouchsafe/curve.base", Rows.laid_vouchsafe_curve_base) :: rest) W) : Go.Lib.TabIs Tryz.prog W "vouchsafe/curve.base" .u64 Gq := by
  obtain ⟨ps, ⟨g', t', cs, fuel, p, q, hg', ht', hvar, hd, _, _⟩, _⟩ := h
  have hg : Tryz.prog.globalNamed "vouchsafe/curve.base" = some 0 := by kernel_rfl
  obtain rfl := Option.some.inj (hg.symm.trans hg')
  have ht : (Tryz.prog.globals[0]?).map (·.type) = some 51 := by kernel_rfl
  obtain rfl := Option.some.inj (ht.symm.trans ht')
  obtain ⟨y0, y1, n, hx, hl, h0, h1⟩ := Go.ChangeShapes.trod_struct2 Tryz.underlying51 hd
  have e0 : y0.1 = Go.Lib.tabData .u64 (Gq.take 5) := by
    have := congrArg Prod.fst hx
    simp only [Rows.laid_vouchsafe_curve_base, DataW.agg.injEq, List.cons.injEq] at this
    exact this.1.symm
  have e1 : y1.1 = Go.Lib.tabData .u64 (Gq.drop 5) := by
    have := congrArg Prod.fst hx
    simp only [Rows.laid_vouchsafe_curve_base, DataW.agg.injEq, List.cons.injEq] at this
    exact this.2.1.symm
  have c0 := Go.Lib.cells_of_tab (zs := Gq.take 5) (k := .u64) Hp Tryz.underlying47 (by kernel_rfl) (by kernel_rfl) (h0.trans (by rw [<- e0]))
  have c1 := Go.Lib.cells_of_tab (zs := Gq.drop 5) (k := .u64) Hp Tryz.underlying47 (by kernel_rfl) (by kernel_rfl) (h1.trans (by rw [<- e1]))
  have hc : Tryz.prog.cellsOf 51 = 10 := by kernel_rfl
  have hc5 : Tryz.prog.cellsOf 49 = 5 := by kernel_rfl
  rw [hc] at hl
  simp only [hc5, List.drop_zero] at c0 c1
  have e : cs.toList = Gq.map fun z => Value.int .u64 z := by
    rw [<- List.take_append_drop 5 cs.toList, c0]
    rw [List.take_of_length_le (by simp at hl ⊢; omega)] at c1
    rw [c1]
    rfl
  unfold Go.Lib.TabIs
  rw [hvar, <- e]
theorem QcX {W : World} (hL : laidMet Tryz.prog [("vouchsafe/field.rootOfMinusOne", Rows.laid_vouchsafe_field_rootOfMinusOne), ("vouchsafe/curve.d", Rows.laid_vouchsafe_curve_d), ("vouchsafe/curve.base", Rows.laid_vouchsafe_curve_base), ("vouchsafe/sha.cubes", Rows.laid_vouchsafe_sha_cubes), ("vouchsafe/sha.squares", Rows.laid_vouchsafe_sha_squares), ("vouchsafe/vouchsaferef07.roots", Rows.laid_vouchsafe_vouchsaferef07_roots), ("vouchsafe/vouchsaferef07.begins", Rows.laid_vouchsafe_vouchsaferef07_begins)] W) : Hs gR [] W := by
  have h1 : Go.Lib.TabIs Tryz.prog W "vouchsafe/field.rootOfMinusOne" .u64 rmL :=
    Go.Lib.tabIs_of_head (g := 6) (t := 49) (e := 47) (n := 5) (by kernel_rfl) (by kernel_rfl) Hp (by kernel_rfl) (by kernel_rfl) (by kernel_rfl) hL
  have t1 := laidMet.tail hL
  have h2 : Go.Lib.TabIs Tryz.prog W "vouchsafe/curve.d" .u64 dL :=
    Go.Lib.tabIs_of_head (g := 4) (t := 49) (e := 47) (n := 5) (by kernel_rfl) (by kernel_rfl) Hp (by kernel_rfl) (by kernel_rfl) (by kernel_rfl) t1
  have t2 := laidMet.tail t1
  have h3 := Qii t2
  have t3 := laidMet.tail t2
  have h4 : Go.Lib.TabIs Tryz.prog W "vouchsafe/sha.cubes" .u64 Q7 :=
    Go.Lib.tabIs_of_head (g := 5) (t := 125) (e := 47) (n := 80) (by kernel_rfl) (by kernel_rfl) Tryz.underlying125 Tryz.underlying47 (by kernel_rfl) (by kernel_rfl) t3
  have t4 := laidMet.tail t3
  have h5 : Go.Lib.TabIs Tryz.prog W "vouchsafe/sha.squares" .u64 Xc :=
    Go.Lib.tabIs_of_head (g := 1) (t := 68) (e := 47) (n := 8) (by kernel_rfl) (by kernel_rfl) Tryz.underlying68 Tryz.underlying47 (by kernel_rfl) (by kernel_rfl) t4
  have t5 := laidMet.tail t4
  have h6 : Go.Lib.TabIs Tryz.prog W "vouchsafe/vouchsaferef07.roots" .u64 Q7 :=
    Go.Lib.tabIs_of_head (g := 3) (t := 125) (e := 47) (n := 80) (by kernel_rfl) (by kernel_rfl) Tryz.underlying125 Tryz.underlying47 (by kernel_rfl) (by kernel_rfl) t5
  have t6 := laidMet.tail t5
  have h7 : Go.Lib.TabIs Tryz.prog W "vouchsafe/vouchsaferef07.begins" .u64 Xc :=
    Go.Lib.tabIs_of_head (g := 2) (t := 68) (e := 47) (n := 8) (by kernel_rfl) (by kernel_rfl) Tryz.underlying68 Tryz.underlying47 (by kernel_rfl) (by kernel_rfl) t6
  have g6 := Kw (g := 3) h6 (by kernel_rfl) (by decide)
  have g7 := Kw (g := 2) h7 (by kernel_rfl) (by decide)
  have g1 := Kw (g := 6) h1 (by kernel_rfl) (by decide)
  have g2 := Kw (g := 4) h2 (by kernel_rfl) (by decide)
  have g3 := Kw (g := 0) h3 (by kernel_rfl) (by decide)
  have g4 := Kw (g := 5) h4 (by kernel_rfl) (by decide)
  have g5 := Kw (g := 1) h5 (by kernel_rfl) (by decide)
  exact ⟨g1, g2, g3, g5, g4, g7, g6, trivial⟩
theorem QaE {W : World} (hL : laidMetH Tryz.prog Rows.edsigVerifiesRow.laid W) : Hs gR [] W := by
  rw [MakeChecks.laidMetH_plain _ _ _ (by kernel_rfl)] at hL
  exact QcX hL
/-- A slice of bytes that came in. -/
theorem QmG {W : World} {v : Value} {zs : List Int} (h : UF .u8 W v zs) : ∃ a c, v = .slice a zs.length c /\ (fB v zs).h [] W := by
  obtain ⟨a, c, rfl, h1, h2, h3, h4⟩ := h
  refine ⟨a, c, rfl, ⟨Nat.zero_lt_one, fun r hr => by simp only [List.mem_map] at hr; obtain ⟨x, _, rfl⟩ := hr; rfl, a, c, by rw [List.length_map], by rw [List.length_map]; exact h1, h2, h4, fun hne => ?_⟩, fun a' n' c' e he => by cases e; exact h4 he⟩
  have hl : 0 < zs.length := by
    cases zs with
    | nil => exact absurd rfl hne
    | cons _ _ => exact Nat.succ_pos _
  obtain ⟨x, o, rfl, _⟩ := h3 0 hl
  refine ⟨x, o, rfl, fun h => (by cases h), fun j u hu => ?_⟩
  have hf := ZE zs
  rw [hf, List.getElem?_map] at hu
  by_cases hj : j < zs.length
  . obtain ⟨x', o', e, hc⟩ := h3 j hj
    cases e
    rw [hc, <- hu, List.getElem?_eq_getElem hj]
    simp [Qb, hj]
  . rw [List.getElem?_eq_none (by omega)] at hu
    cases hu
theorem QfD {N : Nat} {s : List Int} {k : Nat} (hk : k < N) {v : Int} (hv : v = Qb s k) : (cpB N s k).set (Int.toNat (k : Int)) v = cpB N s (k + 1) := by
  have h := FY (s := s) hk
  rwa [QJ, Int.toNat_natCast, <- hv, <- Int.toNat_natCast k] at h
section
variable {a0 : Option Addr} {n0 c0 : Nat} {m : List Int} (hm : Qh m) (hml : m.length <= 9000)
include hm hml
end
/-- What halves gives: the secret, and a slice that holds the prefix. -/
def HM (z : List Int) : Prop := ∀ w L, LL L w -> Hs gR L w -> CX Tryz.prog 16 (QO QR [.a .u8 z 32]) w L (fun x : Option Addr × Nat => .t [.a .u8 (Va z) 32, .o x.1 32 x.2]) (fun x => [fB (.slice x.1 32 x.2) (UR z)]) (fun _ => True)
theorem Qe0 {z : List Int} (hl : z.length = 32) (hH : HM z) : PV Tryz.prog gR 7 [.a .u8 z 32] (.a .u8 (Zr z) 32) := by
  have h2 := (Qdm (Z9 z) (Zi z)).up (G' := gR) (fun L w h => DL L w h.pre)
  have hsl := Zi z
  have hkl : (Zr z).length = 32 := Q1 _
  change PV _ _ _ _ (.a .u8 (Zr z) 32) at h2
  refine PV.mk' Tryz.func7 rfl rfl rfl rfl fun w L hL hG => ?_
  refine S.enter Qw [.a .u8 z 32] gR Tryz.func7 rfl rfl rfl (fun _ => rfl) hL hG ?_
  refine S.go false rfl (by repeat' (first | exact True.intro | refine And.intro ?_ ?_ | assumption | omega | (dsimp only; omega) | (simp only [Nat.add_eq, Nat.mul_eq, Nat.sub_eq, SV.wd]; omega) | exact rfl)) ?_
  refine S.call (α := Option Addr × Nat) (sv := fun x => .t [.a .u8 (Va z) 32, .o x.1 32 x.2]) (fs := fun x => [fB (.slice x.1 32 x.2) (UR z)]) (pr := fun _ => True) rfl rfl rfl rfl rfl rfl Tryz.func16 rfl rfl (fun ρ w h => hH w _ h.lt h.hs) (fun _ => rfl) (fun x _ => ?_)
  generalize Zr z = K at *
  generalize Va z = s at *
  refine S.go false rfl (by repeat' (first | exact True.intro | refine And.intro ?_ ?_ | assumption | omega | (dsimp only; omega) | (simp only [Nat.add_eq, Nat.mul_eq, Nat.sub_eq, SV.wd]; omega) | exact rfl)) ?_
  refine S.cv rfl rfl rfl rfl rfl rfl h2 ?_
  refine S.go false rfl (by repeat' (first | exact True.intro | refine And.intro ?_ ?_ | assumption | omega | (dsimp only; omega) | (simp only [Nat.add_eq, Nat.mul_eq, Nat.sub_eq, SV.wd]; omega) | exact rfl)) ?_
  exact S.retv rfl rfl rfl rfl rfl
def cp2 (P S : List Int) (k : Nat) : List Int := (List.range 64).map fun j => if j < 32 then (if j < k then Qb P j else 0) else (if j - 32 < k then Qb S (j - 32) else 0)
theorem Gh (P S : List Int) (k : Nat) : (cp2 P S k).length = 64 := by simp [cp2]
theorem Qh3 (P S : List Int) : cp2 P S 0 = List.replicate 64 0 := by
  unfold cp2
  refine List.ext_getElem (by simp) fun j q1 q2 => ?_
  simp only [List.getElem_map, List.getElem_range, Nat.not_lt_zero, if_false, List.getElem_replicate, ite_self]
theorem Qh4 {P S : List Int} {k : Nat} (hk : k < 32) : ((cp2 P S k).set (Int.toNat (k : Int)) (P.getD (Int.toNat (k : Int)) 0)).set (Int.toNat (32 + (k : Int))) (S.getD (Int.toNat (k : Int)) 0) = cp2 P S (k + 1) := by
  have e : Int.toNat (32 + (k : Int)) = 32 + k := by omega
  rw [e, Int.toNat_natCast, QJ, QJ]
  refine List.ext_getElem (by simp [cp2]) fun j q1 q2 => ?_
  have hj : j < 64 := by rw [Gh] at q2; exact q2
  rw [List.getElem_set, List.getElem_set]
  simp only [cp2, List.getElem_map, List.getElem_range]
  by_cases h1 : 32 + k = j
  . subst h1
    rw [if_pos rfl, if_neg (by omega), if_pos (by omega), show 32 + k - 32 = k by omega]
  . rw [if_neg h1]
    by_cases h2 : k = j
    . subst h2
      rw [if_pos rfl, if_pos hk, if_pos (by omega)]
    . rw [if_neg h2]
      by_cases h3 : j < 32
      . rw [if_pos h3, if_pos h3]
        by_cases h4 : j < k
        . rw [if_pos h4, if_pos (by omega)]
        . rw [if_neg h4, if_neg (by omega)]
      . rw [if_neg h3, if_neg h3]
        by_cases h4 : j - 32 < k
        . rw [if_pos h4, if_pos (by omega)]
        . rw [if_neg h4, if_neg (by omega)]
theorem QjP {P S : List Int} (hp : P.length = 32) (hs : S.length = 32) : cp2 P S 32 = P ++ S := by
  unfold cp2
  refine List.ext_getElem (by simp [hp, hs]) fun j q1 q2 => ?_
  simp only [List.length_map, List.length_range] at q1
  simp only [List.getElem_map, List.getElem_range]
  by_cases h : j < 32
  . rw [if_pos h, if_pos h, List.getElem_append_left (by omega)]
    simp [Qb, List.getElem?_eq_getElem (show j < P.length by omega)]
  . rw [if_neg h, if_pos (by omega), List.getElem_append_right (by omega)]
    simp only [hp]
    simp [Qb, List.getElem?_eq_getElem (show j - 32 < S.length by omega)]
section
variable {a0 : Option Addr} {n0 c0 : Nat} {m : List Int} (hm : Qh m) (hml : m.length <= 9000)
include hm hml
set_option maxHeartbeats 2000000 in
theorem QiV {z : List Int} (hl : z.length = 32) (hH : HM z) : PV Tryz.prog (gR ++ [fB (.slice a0 n0 c0) m]) 9 [.a .u8 z 32, .o a0 n0 c0] (.a .u8 (Jk z m ++ sB z m) 64) := by
  have upT : ∀ L w, Hs (gR ++ [fB (.slice a0 n0 c0) m]) L w -> Hs gT L w := fun L w h => DL L w h.pre.pre
  have hpl : (UR z).length = 32 := by unfold UR; rw [List.length_drop, XS]
  have hR := fun (a1 : Option Addr) (c1 : Nat) => Qdz (a1 := a1) (n1 := 32) (c1 := c1) (a2 := a0) (n2 := n0) (c2 := c0) (a3 := none) (n3 := 0) (c3 := 0) (Fi z) hm (C := []) (fun x hx => by cases hx) (by rw [hpl]; simp; omega)
  rw [List.append_nil] at hR
  change ∀ a1 c1, PV _ _ _ _ (.a .u8 (KX z m) 32) at hR
  have hB1 := (Qdm (VA z m) (Ux z m)).up upT
  have hB2 := (Qdm (Z9 z) (Zi z)).up upT
  change PV _ _ _ _ (.a .u8 (Jk z m) 32) at hB1
  change PV _ _ _ _ (.a .u8 (Zr z) 32) at hB2
  have hrl : (Jk z m).length = 32 := Q1 _
  have hkl : (Zr z).length = 32 := Q1 _
  have hS := fun k1 k2 => QiI (a3 := a0) (n3 := n0) (c3 := c0) (Ye (QQ (kB (KX z m)) bP)) (Q1 _) (Ye (QQ (kB (Va z)) bP)) (Q1 _) hm hml k1 k2
  change ∀ k1 k2, PR _ _ _ _ [(k1, [.a .u8 (Jk z m) 32]), (k2, [.a .u8 (Zr z) 32])] (.a .u8 (chB (Jk z m) (Zr z) m) 32) at hS
  have hM := (Qhe (JW (Jk z m) (Zr z) m) (Z9 z) (VA z m) (U0 _ _ _) (Zi z) (Ux z m)).up upT
  change PV _ _ _ _ (.a .u8 (sB z m) 32) at hM
  have hcl := U0 (Jk z m) (Zr z) m
  have hsl := Di z m
  have hal := Zi z
  have hnl := Ux z m
  refine PV.mk' Tryz.func9 rfl rfl rfl rfl fun w L hL hG => ?_
  refine S.enter Qw [.a .u8 z 32, .o a0 n0 c0] (gR ++ [fB (.slice a0 n0 c0) m]) Tryz.func9 rfl rfl rfl (fun _ => rfl) hL hG ?_
  refine S.go false rfl (by repeat' (first | exact True.intro | refine And.intro ?_ ?_ | assumption | omega | (dsimp only; omega) | (simp only [Nat.add_eq, Nat.mul_eq, Nat.sub_eq, SV.wd]; omega) | exact rfl)) ?_
  refine S.call (α := Option Addr × Nat) (sv := fun x => .t [.a .u8 (Va z) 32, .o x.1 32 x.2]) (fs := fun x => [fB (.slice x.1 32 x.2) (UR z)]) (pr := fun _ => True) rfl rfl rfl rfl rfl rfl Tryz.func16 rfl rfl (fun ρ w h => hH w _ h.lt h.hs.pre) (fun _ => rfl) (fun x _ => ?_)
  have hR' := hR x.1 x.2
  generalize chB (Jk z m) (Zr z) m = ch at *
  generalize Jk z m = P at *
  generalize Zr z = K at *
  generalize sB z m = s at *
  generalize KX z m = nn at *
  generalize hsec : Va z = a at *
  generalize hpre : UR z = pr at *
  refine S.go false rfl (by repeat' (first | exact True.intro | refine And.intro ?_ ?_ | assumption | omega | (dsimp only; omega) | (simp only [Nat.add_eq, Nat.mul_eq, Nat.sub_eq, SV.wd]; omega) | exact rfl)) ?_
  refine S.cv rfl rfl rfl rfl rfl rfl hR' ?_ (fun L W h => h.pre.pre.app ⟨(h.get (i := 8) rfl : (fB (.slice x.1 32 x.2) pr).h L W), (h.get (i := 7) rfl : (fB (.slice a0 n0 c0) m).h L W), QhI L W, trivial⟩)
  refine S.go false rfl (by repeat' (first | exact True.intro | refine And.intro ?_ ?_ | assumption | omega | (dsimp only; omega) | (simp only [Nat.add_eq, Nat.mul_eq, Nat.sub_eq, SV.wd]; omega) | exact rfl)) ?_
  refine S.drp (G := (gR ++ [fB (.slice a0 n0 c0) m])) false [(1, .a .u8 P 32), (3, .a .u8 K 32)] rfl rfl rfl ?_ (by repeat' (first | exact True.intro | refine And.intro ?_ ?_ | assumption | omega | (dsimp only; omega) | (simp only [Nat.add_eq, Nat.mul_eq, Nat.sub_eq, SV.wd]; omega) | exact rfl))
  have hS' := hS 8 9
  refine S.g false rfl ?_
  refine S.drq (G := (gR ++ [fB (.slice a0 n0 c0) m])) false [(3, .a .u8 ch 32), (6, .a .u8 s 32)] [(3, [8, 9])] rfl rfl rfl ?_ (by repeat' (first | exact True.intro | refine And.intro ?_ ?_ | assumption | omega | (dsimp only; omega) | (simp only [Nat.add_eq, Nat.mul_eq, Nat.sub_eq, SV.wd]; omega) | exact rfl))
  refine S.go false rfl (by repeat' (first | exact True.intro | refine And.intro ?_ ?_ | assumption | omega | (dsimp only; omega) | (simp only [Nat.add_eq, Nat.mul_eq, Nat.sub_eq, SV.wd]; omega) | exact rfl)) ?_
  refine S.recell 21 [.a .u8 (cp2 P s 0) 64] rfl (fun ρ => by rw [Qh3]) ⟨Gh P s 0, trivial⟩ rfl ?_
  refine S.loop [4, 8, 10, 11] (fun k : Nat => [(12, .i .i64 (k : Int))]) (fun k => [(1, [.a .u8 (List.replicate 64 0) 64]), (8, [.a .u8 P 32]), (19, [.a .u8 s 32]), (21, [.a .u8 (cp2 P s k) 64])]) (fun _ => []) (fun k => k <= 32) (fun k => 32 - k) 0 rfl (fun _ => rfl) (fun _ => rfl) rfl ⟨⟨rfl, rfl⟩, trivial⟩ (by repeat' (first | exact True.intro | refine And.intro ?_ ?_ | exact Gh P s 0 | exact hrl | exact hsl | exact rfl)) (fun _ _ _ => trivial) (by omega) fun J k hk again => ?_
  have hk' : k <= 32 := hk
  have hlen := Gh P s k
  have hlen' := Gh P s (k + 1)
  refine S.g false rfl ?_
  refine S.cond rfl (fun c5 => ?_) (fun c5 => ?_)
  . have c' : k < 32 := by omega
    refine S.g false rfl ?_
    refine S.dr0 false rfl rfl rfl ?_ (by repeat' (first | exact True.intro | refine And.intro ?_ ?_ | exact hlen | exact hrl | exact hsl | omega | (dsimp only; omega) | (simp only [List.length_set]; exact hlen) | exact rfl))
    refine S.g false rfl ?_
    refine S.again (again (k + 1) (show k + 1 <= 32 by omega) (show 32 - (k + 1) < 32 - k by omega)) ⟨⟨rfl, by omega⟩, rfl, rfl, rfl, rfl, trivial⟩ ?_ rfl rfl (fun x hx => hx) rfl (fun ρ W h => h.hs)
    repeat' (first | exact True.intro | refine And.intro ?_ ?_ | exact congrArg (fun z => SV.a .u8 z 64) (Qh4 c') | exact hlen' | exact hrl | exact hsl | exact rfl)
  . obtain rfl : k = 32 := by omega
    rw [QjP hrl hsl] at hlen ⊢
    refine S.go false rfl (by repeat' (first | exact True.intro | refine And.intro ?_ ?_ | exact hlen | exact rfl)) ?_
    exact S.retv rfl rfl rfl rfl rfl
end
end Go.Proofs.YtbiboamaigedjaaGreatDoor
