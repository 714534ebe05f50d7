/- Package scalar's reduced: what is left of a number of eight words. -/
import Derived.Test.YteocdjgdljfpdaaCutE
import Derived.Test.YteocdjgdljfpdaaOrdA
import Derived.Test.YteocdjgdljfpdaaDblA
namespace Go.Proofs.Yteocdjgdljfpdaa
open Go.RowKit Go.Shelf
set_option linter.unusedVariables false
set_option maxRecDepth 4000

theorem und_long : Try.prog.underlying 38 = some (.array 8 33) := by kernel_rfl
theorem info_long : (Try.prog.info? 38).map (·.size) = some 8 := by kernel_rfl
theorem zero_long : (Try.prog.info? 38).bind (·.zero) = some (.agg (Array.replicate 8 (Value.int .u64 0))) := by kernel_rfl
/-- The order. -/
def ordV : Int := 7237005577332262213973186563042994240857116359379907606001950938285454250989
theorem valW_ordL : valW ordL 4 = ordV := by decide +kernel
/-- A number's bit. -/
def bitW (xs : List Int) (j : Nat) : Int := at0 xs (j / 64) / 2 ^ (j % 64) % 2
theorem bitW_bit (xs : List Int) (j : Nat) : 0 ≤ bitW xs j ∧ bitW xs j ≤ 1 := by unfold bitW; omega
/-- The n lowest words of a number. -/
def numW (n : Nat) (v : Int) : List Int := (List.range n).map fun j => v / 2 ^ (64 * j) % 18446744073709551616
theorem numW_words (n : Nat) (v : Int) : Words (numW n v) := by
  intro x hx
  simp only [numW, List.mem_map] at hx
  obtain ⟨j, _, rfl⟩ := hx
  omega
theorem numW_length (n : Nat) (v : Int) : (numW n v).length = n := by simp [numW]
theorem at0_numW (n : Nat) (v : Int) (j : Nat) (h : j < n) : at0 (numW n v) j = v / 2 ^ (64 * j) % 18446744073709551616 := by simp [numW, at0, h]
theorem pow_split (m : Nat) : (2 : Int) ^ (64 * (m + 1)) = 2 ^ (64 * m) * 18446744073709551616 := by rw [show 64 * (m + 1) = 64 * m + 64 by omega, Int.pow_add]; rfl
theorem pow_pos2 (m : Nat) : (0 : Int) < 2 ^ m := Int.pow_pos (by omega)
theorem valW_div (xs : List Int) (hx : Words xs) (n m : Nat) (h : m < n) : valW xs n / 2 ^ (64 * m) % 18446744073709551616 = at0 xs m := by
  induction n with
  | zero => omega
  | succ n ih =>
    have hp := pow_pos2 (64 * m)
    by_cases e : m = n
    · subst e
      have h1 := valW_lt xs hx m
      have h2 := hx.at m
      simp only [valW]
      rw [Int.add_mul_ediv_right _ _ (by omega), Int.ediv_eq_zero_of_lt h1.1 h1.2, Int.zero_add, Int.emod_eq_of_lt h2.1 h2.2]
    · have hmn : m < n := by omega
      rw [← ih hmn]
      simp only [valW]
      obtain ⟨d, rfl⟩ : ∃ d, n = m + 1 + d := ⟨n - m - 1, by omega⟩
      have e2 : (2 : Int) ^ (64 * (m + 1 + d)) = 2 ^ (64 * m) * (18446744073709551616 * 2 ^ (64 * d)) := by
        rw [show 64 * (m + 1 + d) = 64 * (m + 1) + 64 * d by omega, Int.pow_add, pow_split, Int.mul_assoc]
      rw [e2, show at0 xs (m + 1 + d) * (2 ^ (64 * m) * (18446744073709551616 * 2 ^ (64 * d))) = (at0 xs (m + 1 + d) * 2 ^ (64 * d) * 18446744073709551616) * 2 ^ (64 * m) by
        rw [← Int.mul_assoc, ← Int.mul_assoc, Int.mul_right_comm _ 18446744073709551616 _, Int.mul_right_comm _ (2 ^ (64 * m)) _, Int.mul_right_comm _ (2 ^ (64 * m)) _]]
      rw [Int.add_mul_ediv_right _ _ (by omega), Int.add_mul_emod_self_right]
theorem eq_numW (xs : List Int) (hx : Words xs) (n : Nat) (hl : xs.length = n) : xs = numW n (valW xs n) := by
  apply eq_of_all (by rw [numW_length, hl])
  intro j hj
  rw [at0_numW n _ j (by omega), valW_div xs hx n j (by omega)]
theorem valW_numW (n : Nat) (v : Int) (h0 : 0 ≤ v) : valW (numW n v) n = v % 2 ^ (64 * n) := by
  have : ∀ m, m ≤ n → valW (numW n v) m = v % 2 ^ (64 * m) := by
    intro m
    induction m with
    | zero => intro _; simp [valW]
    | succ m ih =>
      intro hm
      have hp := pow_pos2 (64 * m)
      simp only [valW]
      rw [ih (by omega), at0_numW n v m (by omega), pow_split]
      have h1 := Int.emod_add_mul_ediv v (2 ^ (64 * m))
      have h2 := Int.emod_add_mul_ediv v (2 ^ (64 * m) * 18446744073709551616)
      have h3 := Int.emod_add_mul_ediv (v / 2 ^ (64 * m)) 18446744073709551616
      have h4 : v / 2 ^ (64 * m) / 18446744073709551616 = v / (2 ^ (64 * m) * 18446744073709551616) := Int.ediv_ediv_of_nonneg (by omega)
      generalize (2 : Int) ^ (64 * m) = p at *
      rw [h4] at h3
      generalize v / (p * 18446744073709551616) = q at *
      generalize v / p % 18446744073709551616 = r at *
      generalize v % (p * 18446744073709551616) = s at *
      grind
  exact this n (Nat.le_refl _)
/-- The bit of a number is the bit of its words. -/
theorem bitW_val (xs : List Int) (hx : Words xs) (n j : Nat) (h : j < 64 * n) : bitW xs j = valW xs n / 2 ^ j % 2 := by
  unfold bitW
  have hm : j / 64 < n := by omega
  rw [← valW_div xs hx n (j / 64) hm]
  have e : (2 : Int) ^ j = 2 ^ (64 * (j / 64)) * 2 ^ (j % 64) := by rw [← Int.pow_add]; congr 1; omega
  rw [e, ← Int.ediv_ediv_of_nonneg (Int.le_of_lt (pow_pos2 _))]
  generalize valW xs n / 2 ^ (64 * (j / 64)) = y
  have hj : j % 64 < 64 := by omega
  generalize j % 64 = t at *
  have e2 : (18446744073709551616 : Int) = 2 ^ t * (2 * 2 ^ (63 - t)) := by
    rw [← Int.mul_assoc, Int.mul_comm (2 ^ t) 2, show (2 : Int) * 2 ^ t = 2 ^ (t + 1) by rw [Int.pow_succ, Int.mul_comm], ← Int.pow_add, show t + 1 + (63 - t) = 64 by omega]
    rfl
  have hp := pow_pos2 t
  have h1 := Int.emod_add_mul_ediv y 18446744073709551616
  conv => rhs; rw [← h1]
  rw [e2]
  generalize y / (2 ^ t * (2 * 2 ^ (63 - t))) = q
  generalize y % (2 ^ t * (2 * 2 ^ (63 - t))) = r
  rw [show r + 2 ^ t * (2 * 2 ^ (63 - t)) * q = r + (2 * (2 ^ (63 - t) * q)) * 2 ^ t by grind, Int.add_mul_ediv_right _ _ (by omega), Int.add_mul_emod_self_left]
theorem half_val (v : Int) (j : Nat) : v / 2 ^ j = 2 * (v / 2 ^ (j + 1)) + v / 2 ^ j % 2 := by
  have e : v / 2 ^ (j + 1) = v / 2 ^ j / 2 := by rw [Int.pow_succ, ← Int.ediv_ediv_of_nonneg (Int.le_of_lt (pow_pos2 j))]
  rw [e]
  omega
theorem red_step (xs : List Int) (hx : Words xs) (rs : List Int) (hrw : Words rs) (n k : Nat) (hlt : k < 64 * n) (hrv : valW rs 4 = valW xs n / 2 ^ (64 * n - k) % ordV) :
    valW (cutS (dblS rs (bitW xs (64 * n - 1 - k)))) 4 = valW xs n / 2 ^ (64 * n - (k + 1)) % ordV := by
  have hb := bitW_bit xs (64 * n - 1 - k)
  have hbv := bitW_val xs hx n (64 * n - 1 - k) (by omega)
  have hh := half_val (valW xs n) (64 * n - 1 - k)
  rw [show 64 * n - 1 - k + 1 = 64 * n - k by omega, ← hbv] at hh
  rw [show 64 * n - (k + 1) = 64 * n - 1 - k by omega, hh]
  have hlo : 0 ≤ valW rs 4 ∧ valW rs 4 < ordV := by rw [hrv]; unfold ordV; omega
  have hd := val_dblS rs hrw _ hb (by have := hlo.2; unfold ordV at this; omega)
  rw [cutS_val (dblS_words rs hrw _ hb), hd, valW_ordL, hrv]
  generalize valW xs n / 2 ^ (64 * n - k) = y
  generalize bitW xs (64 * n - 1 - k) = b at *
  unfold ordV
  split <;> omega

set_option maxHeartbeats 1000000 in
theorem reduced_any (xs : List Int) (w : World) (hx : Words xs) (hl : xs.length = 8) :
    Calls Try.prog 21 #[aggI .u64 xs] w fun e w' => e = .returned (aggI .u64 (numW 4 (valW xs 8 % ordV))) ∧ Below w.heap.size w w' := by
  go_enter Try.func21, Try.ntmps21
  go_wp2_with (first
    | (with_reducible refine at_op (o := ⟨some 1, _, _, _, _, _⟩) ?_; refine wpList_boxI rfl 38 _ rfl .u64 xs rfl ?_; intro w1 A1 s1 b1)
    | (with_reducible refine at_op (o := ⟨some 2, _, _, _, _, _⟩) ?_; refine wpList_allocI rfl 39 rfl .u64 4 zero_short ?_; intro w2 R2 s2 b2; have A2 := A1.below b2)
    | (with_reducible refine at_op (o := ⟨some 3, _, _, _, _, _⟩) ?_; refine wpList_allocI rfl 39 rfl .u64 4 zero_short ?_; intro w3 D3 s3 b3; have A3 := A2.below b3; have R3 := R2.below b3))
  go_loopw [6] (fun i wr => ∃ (k : Nat) (rs : List Int), k ≤ 512 ∧ i = .int .i64 k ∧ Arr .u64 wr w.heap.size xs ∧ Arr .u64 wr w1.heap.size (List.replicate 4 0) ∧ Arr .u64 wr w2.heap.size rs ∧ Words rs ∧ rs.length = 4 ∧ valW rs 4 = valW xs 8 / 2 ^ (512 - k) % ordV ∧ Below w.heap.size w wr) (fun i _ => 512 - (intOf i).toNat)
  case atStart =>
    refine ⟨0, _, by omega, rfl, A3, R3, D3, ?_, rfl, ?_, below_then (below_then b1 b2) b3⟩
    · intro x hx'
      rw [List.eq_of_mem_replicate hx']
      omega
    · have h8 := valW_lt xs hx 8
      rw [Nat.sub_zero, Int.ediv_eq_zero_of_lt h8.1 h8.2]
      decide +kernel
  case round =>
    obtain ⟨k, rs, hk, rfl, A, R, D, hrw, hrl, hrv, hbel⟩ := hrel
    by_cases hlt : k < 512
    · obtain ⟨j, hj, hjk, hj5⟩ : ∃ j : Nat, (511 - (k : Int)) = (j : Nat) ∧ 511 - k = j ∧ j < 512 := ⟨511 - k, by omega, rfl, by omega⟩
      have e1 : IntKind.i64.wrap ((j : Int) / 64) = (j : Int) / 64 := by
        rw [IntKind.wrap_i64]
        omega
      have e2 : (j : Int).tmod 64 = (j : Int) % 64 := rfl
      have e3 : (0 : Int) ≤ (j : Int) / 64 := by omega
      have e4 : (j : Int) / 64 < 8 := by omega
      have e5 : (0 : Int) ≤ (j : Int) % 64 := by omega
      have e6 : (j : Int) % 64 < 64 := by omega
      have e8 : ((j : Int) / 64).toNat = j / 64 := by omega
      have e9 : ((j : Int) % 64).toNat = j % 64 := by omega
      have hx64 := hx.at (j / 64)
      have e7 : bits BinOp.and IntKind.u64 (at0 xs (j / 64) / 2 ^ (j % 64)) 1 = bitW xs j := by
        have h0 : 0 ≤ at0 xs (j / 64) / 2 ^ (j % 64) := Int.ediv_nonneg hx64.1 (Int.le_of_lt (pow_pos2 _))
        have h1 : at0 xs (j / 64) / 2 ^ (j % 64) ≤ at0 xs (j / 64) := Int.ediv_le_self _ hx64.1
        exact u64_and_mask _ 1 1 rfl (by omega) h0 (by omega)
      go_wp2
      refine wp_region_ord [[], [], [1], [2], [3], [], [5], [4, 6], [7], [0, 8], [9, 9], [10, 10, 0, 1, 2, 3, 4, 5, 6, 7, 8, 9, 10]] [some 11, some 12, some 13, some 14, some 15, some 16, some 17, some 18, some 19, some 20, some 21, none] 11 (fun b w' => Arr .u64 w' w.heap.size xs ∧ Arr .u64 w' w1.heap.size (List.replicate 4 0) ∧ Arr .u64 w' w2.heap.size (if b then cutS (dblS rs (bitW xs j)) else rs) ∧ Below w.heap.size w w') (fun opn f _ => match opn with | 0 => f 0 = aggI .u64 rs | 1 => f 1 = .int .i64 (j : Nat) | 2 => f 2 = .int .i64 ((j : Int) / 64) | 3 => f 3 = .pointer (some ⟨w.heap.size, j / 64, none⟩) | 4 => f 4 = .int .u64 (at0 xs (j / 64)) | 5 => f 5 = .int .i64 (j : Nat) | 6 => f 6 = .int .i64 ((j : Int) % 64) | 7 => f 7 = .int .u64 (at0 xs (j / 64) / 2 ^ (j % 64)) | 8 => f 8 = .int .u64 (bitW xs j) | 9 => f 9 = aggI .u64 (dblS rs (bitW xs j)) | 10 => f 10 = aggI .u64 (cutS (dblS rs (bitW xs j))) | 11 => f 11 = undef | _ => True) (fun _ v v' => ∃ cs, v' = v.setRow w2.heap.size cs) (by kernel_rfl) (by kernel_rfl) (by kernel_rfl) (by kernel_rfl) (fun b v v' hb h => ⟨h.1.below hb, h.2.1.below hb, h.2.2.1.below hb, below_then h.2.2.2 hb⟩) (fun _ _ _ _ _ h => h) (fun _ _ _ _ _ _ _ h => h) ⟨A.drew, R.drew, D.drew, hbel.drew⟩ ?_ ?_
      ·
        refine StepL.other (k := 0) rfl (fun b f W hb hG hH => ?_) ?_
        · -- 0
          obtain rfl := hb rfl
          clear hH
          generalize hA : putL _ _ _ _ = A
          have q3 : A.eval (.tmp 3) = .pointer (some ⟨w2.heap.size, 0, none⟩) := by rw [← hA]; exact putL_none rfl rfl rfl rfl
          have r3 : A.tmps[3]?.getD undef = .pointer (some ⟨w2.heap.size, 0, none⟩) := slot_get q3
          clear hA
          exact Does.loadI rfl 39 _ rfl 4 33 und_short info_short w2.heap.size q3 .u64 rs hG.2.2.1 hrl ⟨Below.refl _ _, rfl⟩
        refine StepL.other (k := 1) rfl (fun b f W hb hG hH => ?_) ?_
        · -- 1
          obtain rfl := hb rfl
          clear hH
          generalize hA : putL _ _ _ _ = A
          have q5 : A.eval (.tmp 5) = .int .i64 (j : Nat) := by rw [← hA]; exact putL_none rfl rfl rfl rfl
          have r5 : A.tmps[5]?.getD undef = .int .i64 (j : Nat) := slot_get q5
          clear hA
          refine Does.pure rfl (.int .i64 (j : Nat)) ?_ ⟨Below.refl _ _, rfl⟩
          go_simp
        refine StepL.other (k := 2) rfl (fun b f W hb hG hH => ?_) ?_
        · -- 2
          obtain rfl := hb rfl
          obtain ⟨d1, -⟩ : (f 1 = .int .i64 (j : Nat)) ∧ True := hH
          generalize hA : putL _ _ _ _ = A
          have q12 : A.eval (.tmp 12) = .int .i64 (j : Nat) := by rw [← hA]; exact putL_look rfl rfl rfl d1
          have r12 : A.tmps[12]?.getD undef = .int .i64 (j : Nat) := slot_get q12
          clear hA
          refine Does.pure rfl (.int .i64 ((j : Int) / 64)) ?_ ⟨Below.refl _ _, rfl⟩
          go_simp
        refine StepL.other (k := 3) rfl (fun b f W hb hG hH => ?_) ?_
        · -- 3
          obtain rfl := hb rfl
          obtain ⟨d2, -⟩ : (f 2 = .int .i64 ((j : Int) / 64)) ∧ True := hH
          generalize hA : putL _ _ _ _ = A
          have q1 : A.eval (.tmp 1) = .pointer (some ⟨w.heap.size, 0, none⟩) := by rw [← hA]; exact putL_none rfl rfl rfl rfl
          have r1 : A.tmps[1]?.getD undef = .pointer (some ⟨w.heap.size, 0, none⟩) := slot_get q1
          have q13 : A.eval (.tmp 13) = .int .i64 ((j : Int) / 64) := by rw [← hA]; exact putL_look rfl rfl rfl d2
          have r13 : A.tmps[13]?.getD undef = .int .i64 ((j : Int) / 64) := slot_get q13
          clear hA
          refine Does.pure rfl (.pointer (some ⟨w.heap.size, j / 64, none⟩)) ?_ ⟨Below.refl _ _, rfl⟩
          go_simp
        refine StepL.other (k := 4) rfl (fun b f W hb hG hH => ?_) ?_
        · -- 4
          obtain rfl := hb rfl
          obtain ⟨d3, -⟩ : (f 3 = .pointer (some ⟨w.heap.size, j / 64, none⟩)) ∧ True := hH
          generalize hA : putL _ _ _ _ = A
          have q14 : A.eval (.tmp 14) = .pointer (some ⟨w.heap.size, j / 64, none⟩) := by rw [← hA]; exact putL_look rfl rfl rfl d3
          have r14 : A.tmps[14]?.getD undef = .pointer (some ⟨w.heap.size, j / 64, none⟩) := slot_get q14
          clear hA
          have c0 := hG.1.cell (k := j / 64) (by omega)
          refine Does.pure rfl (.int .u64 (at0 xs (j / 64))) ?_ ⟨Below.refl _ _, rfl⟩
          go_simp
        refine StepL.other (k := 5) rfl (fun b f W hb hG hH => ?_) ?_
        · -- 5
          obtain rfl := hb rfl
          clear hH
          generalize hA : putL _ _ _ _ = A
          have q5 : A.eval (.tmp 5) = .int .i64 (j : Nat) := by rw [← hA]; exact putL_none rfl rfl rfl rfl
          have r5 : A.tmps[5]?.getD undef = .int .i64 (j : Nat) := slot_get q5
          clear hA
          refine Does.pure rfl (.int .i64 (j : Nat)) ?_ ⟨Below.refl _ _, rfl⟩
          go_simp
        refine StepL.other (k := 6) rfl (fun b f W hb hG hH => ?_) ?_
        · -- 6
          obtain rfl := hb rfl
          obtain ⟨d5, -⟩ : (f 5 = .int .i64 (j : Nat)) ∧ True := hH
          generalize hA : putL _ _ _ _ = A
          have q16 : A.eval (.tmp 16) = .int .i64 (j : Nat) := by rw [← hA]; exact putL_look rfl rfl rfl d5
          have r16 : A.tmps[16]?.getD undef = .int .i64 (j : Nat) := slot_get q16
          clear hA
          refine Does.pure rfl (.int .i64 ((j : Int) % 64)) ?_ ⟨Below.refl _ _, rfl⟩
          go_simp
        refine StepL.other (k := 7) rfl (fun b f W hb hG hH => ?_) ?_
        · -- 7
          obtain rfl := hb rfl
          obtain ⟨d4, d6, -⟩ : (f 4 = .int .u64 (at0 xs (j / 64))) ∧ (f 6 = .int .i64 ((j : Int) % 64)) ∧ True := hH
          generalize hA : putL _ _ _ _ = A
          have q15 : A.eval (.tmp 15) = .int .u64 (at0 xs (j / 64)) := by rw [← hA]; exact putL_look rfl rfl rfl d4
          have r15 : A.tmps[15]?.getD undef = .int .u64 (at0 xs (j / 64)) := slot_get q15
          have q17 : A.eval (.tmp 17) = .int .i64 ((j : Int) % 64) := by rw [← hA]; exact putL_look rfl rfl rfl d6
          have r17 : A.tmps[17]?.getD undef = .int .i64 ((j : Int) % 64) := slot_get q17
          clear hA
          refine Does.pure rfl (.int .u64 (at0 xs (j / 64) / 2 ^ (j % 64))) ?_ ⟨Below.refl _ _, rfl⟩
          go_simp
        refine StepL.other (k := 8) rfl (fun b f W hb hG hH => ?_) ?_
        · -- 8
          obtain rfl := hb rfl
          obtain ⟨d7, -⟩ : (f 7 = .int .u64 (at0 xs (j / 64) / 2 ^ (j % 64))) ∧ True := hH
          generalize hA : putL _ _ _ _ = A
          have q18 : A.eval (.tmp 18) = .int .u64 (at0 xs (j / 64) / 2 ^ (j % 64)) := by rw [← hA]; exact putL_look rfl rfl rfl d7
          have r18 : A.tmps[18]?.getD undef = .int .u64 (at0 xs (j / 64) / 2 ^ (j % 64)) := slot_get q18
          clear hA
          refine Does.pure rfl (.int .u64 (bitW xs j)) ?_ ⟨Below.refl _ _, rfl⟩
          go_simp
        refine StepL.other (k := 9) rfl (fun b f W hb hG hH => ?_) ?_
        · -- 9
          obtain rfl := hb rfl
          obtain ⟨d0, d8, -⟩ : (f 0 = aggI .u64 rs) ∧ (f 8 = .int .u64 (bitW xs j)) ∧ True := hH
          generalize hA : putL _ _ _ _ = A
          have q11 : A.eval (.tmp 11) = aggI .u64 rs := by rw [← hA]; exact putL_look rfl rfl rfl d0
          have r11 : A.tmps[11]?.getD undef = aggI .u64 rs := slot_get q11
          have q19 : A.eval (.tmp 19) = .int .u64 (bitW xs j) := by rw [← hA]; exact putL_look rfl rfl rfl d8
          have r19 : A.tmps[19]?.getD undef = .int .u64 (bitW xs j) := slot_get q19
          clear hA
          refine Does.call rfl 33 #[aggI .u64 rs, .int .u64 (bitW xs j)] (by go_simp) ((doubled_any rs (bitW xs j) W hrw hrl (bitW_bit xs j)).mono ?_)
          rintro e w' ⟨rfl, hb'⟩
          exact ⟨_, rfl, hb', rfl⟩
        refine StepL.other (k := 10) rfl (fun b f W hb hG hH => ?_) ?_
        · -- 10
          obtain rfl := hb rfl
          obtain ⟨d9, -, -⟩ : (f 9 = aggI .u64 (dblS rs (bitW xs j))) ∧ (f 9 = aggI .u64 (dblS rs (bitW xs j))) ∧ True := hH
          generalize hA : putL _ _ _ _ = A
          have q20 : A.eval (.tmp 20) = aggI .u64 (dblS rs (bitW xs j)) := by rw [← hA]; exact putL_look rfl rfl rfl d9
          have r20 : A.tmps[20]?.getD undef = aggI .u64 (dblS rs (bitW xs j)) := slot_get q20
          clear hA
          refine Does.call rfl 29 #[aggI .u64 (dblS rs (bitW xs j))] (by go_simp) ((cut_any (dblS rs (bitW xs j)) W (dblS_words rs hrw _ (bitW_bit xs j)) rfl).mono ?_)
          rintro e w' ⟨rfl, hb'⟩
          exact ⟨_, rfl, hb', rfl⟩
        refine StepL.self (k := 11) rfl (fun f W hG hH => ?_) ?_
        · -- 11
          obtain ⟨d10, -, d0, d1, d2, d3, d4, d5, d6, d7, d8, d9, -, -⟩ : (f 10 = aggI .u64 (cutS (dblS rs (bitW xs j)))) ∧ (f 10 = aggI .u64 (cutS (dblS rs (bitW xs j)))) ∧ (f 0 = aggI .u64 rs) ∧ (f 1 = .int .i64 (j : Nat)) ∧ (f 2 = .int .i64 ((j : Int) / 64)) ∧ (f 3 = .pointer (some ⟨w.heap.size, j / 64, none⟩)) ∧ (f 4 = .int .u64 (at0 xs (j / 64))) ∧ (f 5 = .int .i64 (j : Nat)) ∧ (f 6 = .int .i64 ((j : Int) % 64)) ∧ (f 7 = .int .u64 (at0 xs (j / 64) / 2 ^ (j % 64))) ∧ (f 8 = .int .u64 (bitW xs j)) ∧ (f 9 = aggI .u64 (dblS rs (bitW xs j))) ∧ (f 10 = aggI .u64 (cutS (dblS rs (bitW xs j)))) ∧ True := hH
          generalize hA : putL _ _ _ _ = A
          have q3 : A.eval (.tmp 3) = .pointer (some ⟨w2.heap.size, 0, none⟩) := by rw [← hA]; exact putL_none rfl rfl rfl rfl
          have r3 : A.tmps[3]?.getD undef = .pointer (some ⟨w2.heap.size, 0, none⟩) := slot_get q3
          have q21 : A.eval (.tmp 21) = aggI .u64 (cutS (dblS rs (bitW xs j))) := by rw [← hA]; exact putL_look rfl rfl rfl d10
          have r21 : A.tmps[21]?.getD undef = aggI .u64 (cutS (dblS rs (bitW xs j))) := slot_get q21
          clear hA
          refine Does.storeI rfl 39 _ _ rfl 4 info_short w2.heap.size q3 .u64 rs _ q21 hG.2.2.1 hrl (cutS_length rfl) ?_
          intro A9
          exact ⟨⟨_, rfl⟩, ⟨hG.1.rowOther (by omega) _, hG.2.1.rowOther (by omega) _, A9, Below.setRow hG.2.2.2 (by omega) _⟩, rfl⟩
        exact trivial
      ·
        intro f W hG hH
        obtain ⟨d0, d1, d2, d3, d4, d5, d6, d7, d8, d9, d10, d11, -⟩ : (f 0 = aggI .u64 rs) ∧ (f 1 = .int .i64 (j : Nat)) ∧ (f 2 = .int .i64 ((j : Int) / 64)) ∧ (f 3 = .pointer (some ⟨w.heap.size, j / 64, none⟩)) ∧ (f 4 = .int .u64 (at0 xs (j / 64))) ∧ (f 5 = .int .i64 (j : Nat)) ∧ (f 6 = .int .i64 ((j : Int) % 64)) ∧ (f 7 = .int .u64 (at0 xs (j / 64) / 2 ^ (j % 64))) ∧ (f 8 = .int .u64 (bitW xs j)) ∧ (f 9 = aggI .u64 (dblS rs (bitW xs j))) ∧ (f 10 = aggI .u64 (cutS (dblS rs (bitW xs j)))) ∧ (f 11 = undef) ∧ True := hH
        rw [show List.range (List.length [[], [], [1], [2], [3], [], [5], [4, 6], [7], [0, 8], [9, 9], [10, 10, 0, 1, 2, 3, 4, 5, 6, 7, 8, 9, 10]]) = [0, 1, 2, 3, 4, 5, 6, 7, 8, 9, 10, 11] from rfl]
        simp only [putL, List.getElem?_cons_zero, List.getElem?_cons_succ, Option.join, Option.bind_some, id_eq, Act.put, List.setIfInBounds_toArray, List.set_cons_zero, List.set_cons_succ, d0, d1, d2, d3, d4, d5, d6, d7, d8, d9, d10]
        clear d0 d1 d2 d3 d4 d5 d6 d7 d8 d9 d10 d11
        obtain ⟨A, R, D, hbel⟩ := hG
        have D : Arr .u64 W w2.heap.size (cutS (dblS rs (bitW xs j))) := D
        go_wp2
        refine ⟨⟨k + 1, _, by omega, by go_num, A, R, D, cutS_words (dblS_words rs hrw _ (bitW_bit xs j)), cutS_length rfl, ?_, hbel⟩, by simp [intOf]; omega⟩
        rw [show 512 - (k + 1) = j by omega]
        have hst := red_step xs hx rs hrw 8 k hlt hrv
        rw [show 64 * 8 - 1 - k = j by omega, show 64 * 8 - (k + 1) = j by omega] at hst
        exact hst
    · obtain rfl : k = 512 := by omega
      have hys : rs = numW 4 (valW xs 8 % ordV) := by
        rw [eq_numW rs hrw 4 hrl, hrv]
        simp
      subst hys
      go_wp2_with (first
        | (with_reducible refine at_op (o := ⟨some 23, _, _, _, _, _⟩) ?_; refine wpList_loadI rfl 39 _ rfl 4 33 und_short info_short w2.heap.size rfl .u64 _ D hrl ?_)
        | (with_reducible refine at_op (o := ⟨_, .store 39 _ _, _, _, _, _⟩) ?_; refine wpList_storeI rfl 39 _ _ rfl 4 info_short w1.heap.size rfl .u64 _ _ rfl R (by simp) hrl ?_; intro A9))
      refine bodyPost_ret (results_cellI rfl _ 4 33 und_short info_short w1.heap.size rfl .u64 _ A9 hrl) rfl ?_
      exact ⟨rfl, Below.setRow hbel (by omega) _⟩
end Go.Proofs.Yteocdjgdljfpdaa
