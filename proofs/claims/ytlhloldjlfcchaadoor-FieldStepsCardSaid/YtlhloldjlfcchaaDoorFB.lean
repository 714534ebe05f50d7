/- Numbers of five limbs: loaded; sums of 128 bits. -/
import Derived.Test.YtlhloldjlfcchaaDoorFA
import Derived.Test.YtlhloldjlfcchaaDoorShelf
namespace Go.Proofs.YtlhloldjlfcchaaDoor
open Go.RowKit Go.Shelf
set_option linter.unusedVariables false
set_option maxRecDepth 4000

set_option maxHeartbeats 2000000 in
theorem word_any (za : List Int) (B j : Nat) (w : World) (hz : Arr .u8 w B za) (hb : Bytes za) (hl : za.length = 32) (hj : j < 4) :
    Calls Tryd.prog 46 #[.pointer (some ⟨B, 0, none⟩), .int .i64 ((8 * j : Nat) : Int)] w fun e w' => e = .returned (.int .u64 (partW za j 8)) ∧ w = w' := by
  have hj4 : (j : Int) < 4 := by omega
  go_enter Tryd.func46, Tryd.ntmps46
  go_wp2
  go_loopw [5, 7] (fun x i wr => ∃ (k : Nat), k ≤ 8 ∧ i = .int .i64 k ∧ x = .int .u64 (partW za j k) ∧ w = wr) (fun _ i _ => 8 - (intOf i).toNat)
  case atStart => exact ⟨0, by omega, rfl, rfl, rfl⟩
  case round =>
    obtain ⟨k, hk, rfl, rfl, rfl⟩ := hrel
    by_cases hlt : k < 8
    · have c0 := hz.cell (k := 8 * j + k) (by omega)
      have ho := or_byte (partW za j k) (at0 za (8 * j + k)) k hlt (partW_lt za hb _ _ (by omega)) (hb.at (8 * j + k))
      have hw : IntKind.u64.wrap (at0 za (8 * j + k)) = at0 za (8 * j + k) := by have := hb.at (8 * j + k); rw [wrap_u64_eq]; omega
      go_wp2
      refine ⟨⟨k + 1, by omega, by go_num, ?_⟩, by simp [intOf]; omega⟩
      simp [partW]
    · obtain rfl : k = 8 := by omega
      go_wp2
      go_ret
      exact ⟨rfl, rfl⟩

def loadL (za : List Int) : List Int :=
  [partW za 0 8 % 2251799813685248, (partW za 0 8 / 2251799813685248 + partW za 1 8 * 8192) % 2251799813685248, (partW za 1 8 / 274877906944 + partW za 2 8 * 67108864) % 2251799813685248,
   (partW za 2 8 / 33554432 + partW za 3 8 * 549755813888) % 2251799813685248, partW za 3 8 / 4096]
theorem part_word (za : List Int) (hb : Bytes za) (j : Nat) : 0 ≤ partW za j 8 ∧ partW za j 8 < 18446744073709551616 := by
  have := partW_lt za hb j 8 (Nat.le_refl _)
  simp only [Nat.reduceMul, Int.reducePow] at this
  exact this
theorem loadL_words (za : List Int) (hb : Bytes za) : Words (loadL za) := by
  have h0 := part_word za hb 0; have h1 := part_word za hb 1; have h2 := part_word za hb 2; have h3 := part_word za hb 3
  exact words_of5 (by omega) (by omega) (by omega) (by omega) (by omega)
theorem loadL_fel (za : List Int) (hb : Bytes za) : Fel (carriedS (loadL za)) (valB za 32 % pV) := by
  have h := carried_fel _ (loadL_words za hb)
  have h0 := part_word za hb 0; have h1 := part_word za hb 1; have h2 := part_word za hb 2; have h3 := part_word za hb 3
  have e : valL (loadL za) = valB za 32 := by
    have p3 := valB_part za 3 8; have p2 := valB_part za 2 8; have p1 := valB_part za 1 8; have p0 := valB_part za 0 8
    simp only [Nat.reduceMul, Nat.reduceAdd, Int.reducePow] at p0 p1 p2 p3
    have p00 : valB za 0 = 0 := rfl
    rw [p3, p2, p1, p0, p00]
    simp only [valL, loadL, at0_cons_zero, at0_cons_succ, Int.reducePow]
    generalize partW za 0 8 = a at *
    generalize partW za 1 8 = b at *
    generalize partW za 2 8 = c at *
    generalize partW za 3 8 = d at *
    omega
  rw [e] at h
  exact h
theorem or_shl (a b : Int) (n : Nat) (hn : n ≤ 64) (ha : 0 ≤ a ∧ a < 2 ^ n) (hb : 0 ≤ b) : bits BinOp.or IntKind.u64 a (IntKind.u64.wrap (b * 2 ^ n)) = a + b * 2 ^ n % 18446744073709551616 := by
  rw [wrap_u64_eq]
  have hp : (0 : Int) < 2 ^ n := Int.pow_pos (by omega)
  have e64 : (18446744073709551616 : Int) = 2 ^ n * 2 ^ (64 - n) := by rw [← Int.pow_add, show n + (64 - n) = 64 by omega]; rfl
  have hm : b * 2 ^ n % 18446744073709551616 % 2 ^ n = 0 := by
    rw [e64, Int.emod_emod_of_dvd _ (Int.dvd_mul_right _ _), Int.mul_emod_left]
  have hle : (2 : Int) ^ n ≤ 18446744073709551616 := by
    have h1 : (0 : Int) < 2 ^ (64 - n) := Int.pow_pos (by omega)
    have h2 : (2 : Int) ^ n * 1 ≤ 2 ^ n * 2 ^ (64 - n) := Int.mul_le_mul_of_nonneg_left (by omega) (by omega)
    omega
  have h := u64_or_add (b * 2 ^ n % 18446744073709551616) a n (by omega) (by omega) hm ha.1 ha.2 (by omega)
  rw [show bits BinOp.or IntKind.u64 a (b * 2 ^ n % 18446744073709551616) = bits BinOp.or IntKind.u64 (b * 2 ^ n % 18446744073709551616) a from by simp only [bits, BitVec.or_comm], h]
  omega

set_option maxHeartbeats 2000000 in
theorem load_any (za : List Int) (w : World) (hb : Bytes za) (hl : za.length = 32) :
    Calls Tryd.prog 29 #[aggI .u8 za] w fun e w' => e = .returned (aggI .u64 (carriedS (loadL za))) ∧ Below w.heap.size w w' := by
  have h0 := part_word za hb 0; have h1 := part_word za hb 1; have h2 := part_word za hb 2; have h3 := part_word za hb 3
  have hw := loadL_words za hb
  have HW0 : ∀ W, Arr .u8 W w.heap.size za → Calls Tryd.prog 46 #[.pointer (some ⟨w.heap.size, 0, none⟩), .int .i64 0] W fun e w' => e = .returned (.int .u64 (partW za 0 8)) ∧ W = w' := fun W hz => word_any za w.heap.size 0 W hz hb hl (by omega)
  have HW1 : ∀ W, Arr .u8 W w.heap.size za → Calls Tryd.prog 46 #[.pointer (some ⟨w.heap.size, 0, none⟩), .int .i64 8] W fun e w' => e = .returned (.int .u64 (partW za 1 8)) ∧ W = w' := fun W hz => word_any za w.heap.size 1 W hz hb hl (by omega)
  have HW2 : ∀ W, Arr .u8 W w.heap.size za → Calls Tryd.prog 46 #[.pointer (some ⟨w.heap.size, 0, none⟩), .int .i64 16] W fun e w' => e = .returned (.int .u64 (partW za 2 8)) ∧ W = w' := fun W hz => word_any za w.heap.size 2 W hz hb hl (by omega)
  have HW3 : ∀ W, Arr .u8 W w.heap.size za → Calls Tryd.prog 46 #[.pointer (some ⟨w.heap.size, 0, none⟩), .int .i64 24] W fun e w' => e = .returned (.int .u64 (partW za 3 8)) ∧ W = w' := fun W hz => word_any za w.heap.size 3 W hz hb hl (by omega)
  have e1 : loadL za = loadL za := rfl
  conv at e1 => rhs; unfold loadL
  generalize partW za 0 8 = q0 at *
  generalize partW za 1 8 = q1 at *
  generalize partW za 2 8 = q2 at *
  generalize partW za 3 8 = q3 at *
  have m0 := mask51 h0
  have o1 := or_shl (q0 / 2251799813685248) q1 13 (by omega) (by simp only [Int.reducePow]; omega) h1.1
  have o2 := or_shl (q1 / 274877906944) q2 26 (by omega) (by simp only [Int.reducePow]; omega) h2.1
  have o3 := or_shl (q2 / 33554432) q3 39 (by omega) (by simp only [Int.reducePow]; omega) h3.1
  simp only [Int.reducePow] at o1 o2 o3
  have m1 := mask51 (x := q0 / 2251799813685248 + q1 * 8192 % 18446744073709551616) (by omega)
  have m2 := mask51 (x := q1 / 274877906944 + q2 * 67108864 % 18446744073709551616) (by omega)
  have m3 := mask51 (x := q2 / 33554432 + q3 * 549755813888 % 18446744073709551616) (by omega)
  rw [show (q0 / 2251799813685248 + q1 * 8192 % 18446744073709551616) % 2251799813685248 = (q0 / 2251799813685248 + q1 * 8192) % 2251799813685248 by omega] at m1
  rw [show (q1 / 274877906944 + q2 * 67108864 % 18446744073709551616) % 2251799813685248 = (q1 / 274877906944 + q2 * 67108864) % 2251799813685248 by omega] at m2
  rw [show (q2 / 33554432 + q3 * 549755813888 % 18446744073709551616) % 2251799813685248 = (q2 / 33554432 + q3 * 549755813888) % 2251799813685248 by omega] at m3
  rw [← o1] at m1
  rw [← o2] at m2
  rw [← o3] at m3
  clear o1 o2 o3
  rw [e1] at hw ⊢
  clear e1
  go_enter Tryd.func29, Tryd.ntmps29
  go_wp2_with (first
    | (with_reducible refine at_op (o := ⟨some 1, _, _, _, _, _⟩) ?_; refine wpList_boxI rfl 22 _ rfl .u8 za rfl ?_; intro w1 A1 s1 b1)
    | (with_reducible refine at_op (o := ⟨some 2, _, _, _, _, _⟩) ?_; refine wpList_allocI rfl 38 rfl .u64 5 zero_limbs ?_; intro w2 A2 s2 b2; have X2 := A1.below b2)
    | (go_at_call 46; first | ((with_reducible refine (HW0 _ X2).mono ?_); rintro e w' ⟨rfl, rfl⟩) | ((with_reducible refine (HW1 _ X2).mono ?_); rintro e w' ⟨rfl, rfl⟩) | ((with_reducible refine (HW2 _ X2).mono ?_); rintro e w' ⟨rfl, rfl⟩) | ((with_reducible refine (HW3 _ X2).mono ?_); rintro e w' ⟨rfl, rfl⟩))
    | (with_reducible refine at_op (o := ⟨some 34, _, _, _, _, _⟩) ?_; refine wpList_buildI rfl 38 _ rfl .u64 [q0 % 2251799813685248, (q0 / 2251799813685248 + q1 * 8192) % 2251799813685248, (q1 / 274877906944 + q2 * 67108864) % 2251799813685248, (q2 / 33554432 + q3 * 549755813888) % 2251799813685248, q3 / 4096] _ (built_limbs _ _ _ _ _) rfl ?_)
    | (with_reducible refine at_op (o := ⟨some 7, _, _, _, _, _⟩) ?_; refine wpList_allocI rfl 38 rfl .u64 5 zero_limbs ?_; intro w3 A3 s3 b3; have R3 := A2.below b3)
    | (with_reducible refine at_op (o := ⟨_, .store 38 (.tmp 7) _, _, _, _, _⟩) ?_; refine wpList_storeI rfl 38 _ _ rfl 5 info_limbs (w2.heap.size) rfl .u64 _ ([q0 % 2251799813685248, (q0 / 2251799813685248 + q1 * 8192) % 2251799813685248, (q1 / 274877906944 + q2 * 67108864) % 2251799813685248, (q2 / 33554432 + q3 * 549755813888) % 2251799813685248, q3 / 4096]) rfl (A3) (rfl) (rfl) ?_; intro D; have R4 := R3.rowOther (B' := w2.heap.size) (by omega) (([q0 % 2251799813685248, (q0 / 2251799813685248 + q1 * 8192) % 2251799813685248, (q1 / 274877906944 + q2 * 67108864) % 2251799813685248, (q2 / 33554432 + q3 * 549755813888) % 2251799813685248, q3 / 4096] : List Int).map (Value.int .u64)).toArray)
    | (with_reducible refine at_op (o := ⟨some 35, _, _, _, _, _⟩) ?_; refine wpList_loadI rfl 38 _ rfl 5 33 und_limbs info_limbs (w2.heap.size) rfl .u64 ([q0 % 2251799813685248, (q0 / 2251799813685248 + q1 * 8192) % 2251799813685248, (q1 / 274877906944 + q2 * 67108864) % 2251799813685248, (q2 / 33554432 + q3 * 549755813888) % 2251799813685248, q3 / 4096]) (D) (rfl) ?_)
    | (go_at_call 47; refine (carried_any _ _ hw rfl).mono ?_; rintro e w5 ⟨rfl, b5⟩; have R5 := R4.below b5)
    | (with_reducible refine at_op (o := ⟨_, .store 38 (.tmp 2) _, _, _, _, _⟩) ?_; refine wpList_storeI rfl 38 _ _ rfl 5 info_limbs (w1.heap.size) rfl .u64 _ (carriedS [q0 % 2251799813685248, (q0 / 2251799813685248 + q1 * 8192) % 2251799813685248, (q1 / 274877906944 + q2 * 67108864) % 2251799813685248, (q2 / 33554432 + q3 * 549755813888) % 2251799813685248, q3 / 4096]) rfl (R5) (rfl) (rfl) ?_; intro A9))
  refine bodyPost_ret (results_cellI rfl _ 5 33 und_limbs info_limbs (w1.heap.size) rfl .u64 _ A9 rfl) rfl ?_
  exact ⟨rfl, Below.setRow (below_then (Below.setRow (below_then (below_then b1 b2) b3) (by omega) _) b5) (by omega) _⟩

/-- A sum of 128 bits. -/
def wv (v : Int) : Value := aggI .u64 [v / 18446744073709551616, v % 18446744073709551616]
theorem und_wide : ∃ fs, Tryd.prog.underlying 57 = some (.struct fs) := ⟨_, Tryd.underlying57⟩
theorem info_wide : (Tryd.prog.info? 57).map (·.size) = some 2 := by kernel_rfl
theorem zero_wide : (Tryd.prog.info? 57).bind (·.zero) = some (.agg (Array.replicate 2 (Value.int .u64 0))) := by kernel_rfl
theorem mul64_int (x y : Int) (hx : 0 ≤ x ∧ x < 18446744073709551616) (hy : 0 ≤ y ∧ y < 18446744073709551616) (w : World) : Calls Tryd.prog 52 #[.int .u64 x, .int .u64 y] w fun e w' => e = .returned (.tuple #[.int .u64 (x * y / 18446744073709551616), .int .u64 (x * y % 18446744073709551616)]) ∧ w = w' := by
  obtain ⟨a, rfl⟩ := Int.eq_ofNat_of_zero_le hx.1
  obtain ⟨b, rfl⟩ := Int.eq_ofNat_of_zero_le hy.1
  exact (Tryd.bits_Mul64 a b (by omega) (by omega) w).mono fun e w' h => ⟨h.1, h.2.symm⟩
section
variable {P : Program} {w : World}
theorem results_cellS {fn : Func} {p : Tmp} {ty : TypeId} (h : fn.results = #[.cell p ty]) (tmps : Array Value) (n : Nat) (fs : Array Field) (hu : P.underlying ty = some (.struct fs)) (hi : (P.info? ty).map (·.size) = some n)
    (B : Nat) (hp : tmps.getD p undef = .pointer (some ⟨B, 0, none⟩)) (K : IntKind) (zs : List Int) (hz : Arr K w B zs) (hn : zs.length = n) : (results fn tmps).run P w = .ok (aggI K zs) w := by
  obtain ⟨t, hz⟩ := hz
  exact results_cell_row h tmps w B t _ _ _ hp hz hu rfl (by rw [hi]; simp [hn])
end
theorem more_nums (v m : Int) (hv : 0 ≤ v) (hm : 0 ≤ m) (h : v + m < 340282366920938463463374607431768211456) :
    ∃ s1 c1 s2 c2 : Int, (∀ w, (callFunc 53 #[.int .u64 (v % 18446744073709551616), .int .u64 (m % 18446744073709551616), .int .u64 0]).run Tryd.prog w = .ok (.value (.tuple #[.int .u64 s1, .int .u64 c1])) w) ∧
      (∀ w, (callFunc 53 #[.int .u64 (v / 18446744073709551616), .int .u64 (m / 18446744073709551616), .int .u64 c1]).run Tryd.prog w = .ok (.value (.tuple #[.int .u64 s2, .int .u64 c2])) w) ∧ s2 = (v + m) / 18446744073709551616 ∧ s1 = (v + m) % 18446744073709551616 := by
  refine ⟨_, _, _, _, fun w => add64_run (v % 18446744073709551616) (m % 18446744073709551616) 0 (by omega) (by omega) (by omega) (by omega) w, fun w => add64_run (v / 18446744073709551616) (m / 18446744073709551616) ((v % 18446744073709551616 + m % 18446744073709551616 + 0) / 18446744073709551616) (by omega) (by omega) (by omega) (by omega) w, ?_, ?_⟩ <;> omega

set_option maxHeartbeats 2000000 in
theorem more_any (v a b : Int) (w : World) (hv : 0 ≤ v) (ha : 0 ≤ a ∧ a < 18446744073709551616) (hb : 0 ≤ b ∧ b < 18446744073709551616) (h : v + a * b < 340282366920938463463374607431768211456) :
    Calls Tryd.prog 50 #[wv v, .int .u64 a, .int .u64 b] w fun e w' => e = .returned (wv (v + a * b)) ∧ Below w.heap.size w w' := by
  have hM := mul64_int a b ha hb
  have hm : 0 ≤ a * b := Int.mul_nonneg ha.1 hb.1
  unfold wv
  generalize a * b = m at *
  obtain ⟨t1, g1, t2, g2, h1, h2, e2, e1⟩ := more_nums v m hv hm h
  rw [← e1, ← e2]
  clear e1 e2 h
  generalize m / 18446744073709551616 = mh at *
  generalize m % 18446744073709551616 = ml at *
  generalize v / 18446744073709551616 = vh at *
  generalize v % 18446744073709551616 = vl at *
  clear hv hm
  go_enter Tryd.func50, Tryd.ntmps50
  go_wp2_with (first
    | (with_reducible refine at_op (o := ⟨some 3, _, _, _, _, _⟩) ?_; refine wpList_boxI rfl 57 _ rfl .u64 [vh, vl] rfl ?_; intro w1 A1 s1 b1)
    | (with_reducible refine at_op (o := ⟨some 6, _, _, _, _, _⟩) ?_; refine wpList_allocI rfl 57 rfl .u64 2 zero_wide ?_; intro w2 A2 s2 b2; have X2 := A1.below b2; have k0 := X2.cell (k := 0) (by simp); have k1 := X2.cell (k := 1) (by simp); simp only [at0_cons_zero, at0_cons_succ] at k0 k1)
    | (go_at_call 52; refine (hM _).mono ?_; rintro e w' ⟨rfl, rfl⟩)
    | (with_reducible refine at_op (o := ⟨_, .store 57 _ _, _, _, _, _⟩) ?_; refine wpList_storeI rfl 57 _ _ rfl 2 info_wide (w1.heap.size) rfl .u64 _ ([t2, t1]) rfl (A2) (rfl) (rfl) ?_; intro A9))
  refine bodyPost_ret (results_cellS rfl _ 2 _ Tryd.underlying57 info_wide (w1.heap.size) rfl .u64 _ A9 rfl) rfl ?_
  exact ⟨rfl, Below.setRow (below_then b1 b2) (by omega) _⟩

set_option maxHeartbeats 2000000 in
theorem shifted_any (v : Int) (w : World) (hv : 0 ≤ v) (h : v < 41538374868278621028243970633760768) :
    Calls Tryd.prog 51 #[wv v] w fun e w' => e = .returned (.int .u64 (v / 2251799813685248)) ∧ Below w.heap.size w w' := by
  have o := or_shl (v % 18446744073709551616 / 2251799813685248) (v / 18446744073709551616) 13 (by omega) (by simp only [Int.reducePow]; omega) (by omega)
  simp only [Int.reducePow] at o
  rw [show v % 18446744073709551616 / 2251799813685248 + v / 18446744073709551616 * 8192 % 18446744073709551616 = v / 2251799813685248 by omega] at o
  rw [show ∀ x y, bits BinOp.or IntKind.u64 x y = bits BinOp.or IntKind.u64 y x from fun x y => by simp only [bits, BitVec.or_comm]] at o
  unfold wv
  generalize v / 18446744073709551616 = vh at *
  generalize v % 18446744073709551616 = vl at *
  generalize v / 2251799813685248 = r at *
  go_enter Tryd.func51, Tryd.ntmps51
  go_wp2_with (first
    | (with_reducible refine at_op (o := ⟨some 1, _, _, _, _, _⟩) ?_; refine wpList_boxI rfl 57 _ rfl .u64 [vh, vl] rfl ?_; intro w1 A1 s1 b1; have c0 := A1.cell (k := 0) (by simp); have c1 := A1.cell (k := 1) (by simp); simp only [at0_cons_zero, at0_cons_succ] at c0 c1))
  go_ret
  exact ⟨rfl, b1⟩
end Go.Proofs.YtlhloldjlfcchaaDoor
