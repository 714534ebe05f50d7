/- Numbers of five limbs: powers. -/
import Derived.Test.YtlhloldjlfcchaaDoorFD
namespace Go.Proofs.YtlhloldjlfcchaaDoor
open Go.RowKit Go.Shelf
set_option linter.unusedVariables false
set_option maxRecDepth 8000

theorem built_limbs1 (a : Int) : Tryd.prog.built 38 [(0, .int .u64 a)] = some (([a, 0, 0, 0, 0] : List Int).map (Value.int .u64)).toArray := by kernel_rfl
theorem one_fel : Fel [1, 0, 0, 0, 0] 1 := ⟨rfl, small_of5 (by omega) (by omega) (by omega) (by omega) (by omega), by decide +kernel⟩
set_option maxHeartbeats 2000000 in
theorem small_any (w : World) : Calls Tryd.prog 55 #[.int .u32 1] w fun e w' => e = .returned (aggI .u64 [1, 0, 0, 0, 0]) ∧ Below w.heap.size w w' := by
  go_enter Tryd.func55, Tryd.ntmps55
  go_wp2_with (first
    | (with_reducible refine at_op (o := ⟨some 2, _, _, _, _, _⟩) ?_; refine wpList_allocI rfl 38 rfl .u64 5 zero_limbs ?_; intro w1 A1 s1 b1)
    | (with_reducible refine at_op (o := ⟨some 5, _, _, _, _, _⟩) ?_; refine wpList_buildI rfl 38 _ rfl .u64 [1, 0, 0, 0, 0] _ (built_limbs1 1) rfl ?_)
    | (with_reducible refine at_op (o := ⟨_, .store 38 _ _, _, _, _, _⟩) ?_; refine wpList_storeI rfl 38 _ _ rfl 5 info_limbs (w.heap.size) rfl .u64 _ ([1, 0, 0, 0, 0]) rfl (A1) (rfl) (rfl) ?_; intro A9))
  refine bodyPost_ret (results_cellI rfl _ 5 33 und_limbs info_limbs (w.heap.size) rfl .u64 _ A9 (rfl)) rfl ?_
  exact ⟨rfl, Below.setRow b1 (Nat.le_refl _) _⟩

/-- A number of 1 bits, but for two bytes. -/
def powN (lo hi : Int) : List Int := ((List.replicate 32 (255 : Int)).set 0 lo).set 31 hi
set_option maxHeartbeats 2000000 in
theorem pow_any (lo hi : Int) (w : World) : Calls Tryd.prog 56 #[.int .u8 lo, .int .u8 hi] w fun e w' => e = .returned (aggI .u8 (powN lo hi)) ∧ Below w.heap.size w w' := by
  go_enter Tryd.func56, Tryd.ntmps56
  go_wp2_with (first
    | (with_reducible refine at_op (o := ⟨some 4, _, _, _, _, _⟩) ?_; refine wpList_allocI rfl 22 rfl .u8 32 zero_a32 ?_; intro w1 A1 s1 b1)
    | (with_reducible refine at_op (o := ⟨some 5, _, _, _, _, _⟩) ?_; refine wpList_allocI rfl 22 rfl .u8 32 zero_a32 ?_; intro w2 A2 s2 b2; have R2 := A1.below b2))
  go_loopw [7] (fun i wr => ∃ (k : Nat) (zs : List Int), k ≤ 32 ∧ i = .int .i64 k ∧ Arr .u8 wr w.heap.size (List.replicate 32 0) ∧ Arr .u8 wr w1.heap.size zs ∧ zs.length = 32 ∧ (∀ j, j < k → at0 zs j = 255) ∧ Below w.heap.size w wr) (fun i _ => 32 - (intOf i).toNat)
  case atStart => exact ⟨0, _, by omega, rfl, R2, A2, by simp, fun j hj => by omega, below_then b1 b2⟩
  case round =>
    obtain ⟨k, zs, hk, rfl, R, D, hz, hj, hbel⟩ := hrel
    by_cases hlt : k < 32
    · have c1 := D.cell (k := k) (by omega)
      have f0 := D.free (k := k) (by omega)
      have HJ := Lib.hid hj
      clear hj
      go_wp2
      refine ⟨⟨k + 1, _, by omega, by go_num, R.setOther (by omega) _ _, D.set _ _, by simp [hz], fun j hj' => ?_, hbel.setCell (by show w.heap.size ≤ w1.heap.size; omega) _⟩, by simp [intOf]; omega⟩
      rw [at0_set zs k j _ (by omega)]
      by_cases e : j = k
      · rw [if_pos e]
      · rw [if_neg e]; exact HJ.out j (by omega)
    · obtain rfl : k = 32 := by omega
      have hzs : zs = List.replicate 32 255 := by
        apply eq_of_all (by simp [hz])
        intro j h
        rw [hj j (by omega)]
        simp only [at0, List.getElem?_replicate]
        rw [if_pos (by omega)]
        rfl
      subst hzs
      have c0 := D.cell (k := 0) (by simp)
      have f0 := D.free (k := 0) (by simp)
      have D1 := D.set 0 lo
      have c1 := D1.cell (k := 31) (by simp)
      have f1 := D1.free (k := 31) (by simp)
      have D2 : Arr .u8 _ w1.heap.size (powN lo hi) := D1.set 31 hi
      have R1 := (R.setOther (B' := w1.heap.size) (by omega) 0 (.int .u8 lo)).setOther (B' := w1.heap.size) (by omega) 31 (.int .u8 hi)
      have b9 := Below.setCell (Below.setCell hbel (p := ⟨w1.heap.size, 0, none⟩) (by show w.heap.size ≤ w1.heap.size; omega) (.int .u8 lo)) (p := ⟨w1.heap.size, 31, none⟩) (by show w.heap.size ≤ w1.heap.size; omega) (.int .u8 hi)
      clear hj D D1 R hbel
      go_wp2_with (first
    | (with_reducible refine at_op (o := ⟨some 17, _, _, _, _, _⟩) ?_; refine wpList_loadI rfl 22 _ rfl 32 5 und_a32 info_a32 (w1.heap.size) rfl .u8 (powN lo hi) (D2) (by simp [powN]) ?_)
    | (with_reducible refine at_op (o := ⟨_, .store 22 _ _, _, _, _, _⟩) ?_; refine wpList_storeI rfl 22 _ _ rfl 32 info_a32 (w.heap.size) rfl .u8 _ (powN lo hi) rfl (R1) (rfl) (by simp [powN]) ?_; intro A9))
      refine bodyPost_ret (results_cellI rfl _ 32 5 und_a32 info_a32 (w.heap.size) rfl .u8 _ A9 (by simp [powN])) rfl ?_
      exact ⟨rfl, Below.setRow b9 (Nat.le_refl _) _⟩

/-- A power, behind so many of the exponent's bits. -/
def powS (xs nb : List Int) : Nat → List Int
  | 0 => [1, 0, 0, 0, 0]
  | k + 1 => if bitB nb (255 - k) = 1 then carriedS (timesL (carriedS (timesL (powS xs nb k) (powS xs nb k))) xs) else carriedS (timesL (powS xs nb k) (powS xs nb k))
theorem pow_step (u : Int) (e : Nat) : ((u ^ e % pV) * (u ^ e % pV)) % pV = u ^ (2 * e) % pV := by
  rw [← Int.mul_emod, ← Int.pow_add, show e + e = 2 * e by omega]
theorem pow_step1 (u v : Int) (e : Nat) (hv : v % pV = u % pV) : ((u ^ (2 * e) % pV) * v) % pV = u ^ (2 * e + 1) % pV := by
  rw [Int.mul_emod, Int.emod_emod_of_dvd _ (Int.dvd_refl _), hv, ← Int.mul_emod, Int.pow_succ]
theorem powS_fel (xs nb : List Int) (u : Int) (hx : Fel xs u) (hn : Bytes nb) : ∀ k, k ≤ 256 → Fel (powS xs nb k) (u ^ (valB nb 32 / 2 ^ (256 - k)).toNat % pV)
  | 0, _ => by
    have h := valB_32 nb hn
    rw [Nat.sub_zero, Int.ediv_eq_zero_of_lt h.1 h.2, show u ^ Int.toNat 0 % pV = 1 by rw [show Int.toNat 0 = 0 from rfl, Int.pow_zero]; decide +kernel]
    exact one_fel
  | k + 1, hk => by
    have ih := powS_fel xs nb u hx hn k (by omega)
    have h2 := times_fel ih ih
    rw [pow_step] at h2
    have hb := bitB_val nb hn 32 (255 - k) (by omega)
    have hh := half_val (valB nb 32) (255 - k)
    rw [show 255 - k + 1 = 256 - k by omega, ← hb] at hh
    have h0 := (valB_32 nb hn).1
    have hy : 0 ≤ valB nb 32 / 2 ^ (256 - k) := Int.ediv_nonneg h0 (Int.le_of_lt (pow_pos2 _))
    rw [show 256 - (k + 1) = 255 - k by omega]
    have hbit := bitB_bit nb (255 - k)
    unfold powS
    split
    · next h1 =>
      rw [h1] at hh
      have e : (valB nb 32 / 2 ^ (255 - k)).toNat = 2 * (valB nb 32 / 2 ^ (256 - k)).toNat + 1 := by omega
      rw [e]
      have h3 := times_fel h2 hx
      have hu : u % pV = u % pV := rfl
      rw [pow_step1 u u _ rfl] at h3
      exact h3
    · next h1 =>
      have h10 : bitB nb (255 - k) = 0 := by omega
      rw [h10] at hh
      have e : (valB nb 32 / 2 ^ (255 - k)).toNat = 2 * (valB nb 32 / 2 ^ (256 - k)).toNat := by omega
      rw [e]
      exact h2

set_option maxHeartbeats 4000000 in
theorem power_any (xs nb : List Int) (u : Int) (w : World) (hx : Fel xs u) (hn : Bytes nb) (hl : nb.length = 32) :
    Calls Tryd.prog 40 #[aggI .u64 xs, aggI .u8 nb] w fun e w' => e = .returned (aggI .u64 (powS xs nb 256)) ∧ Below w.heap.size w w' := by
  have hxl := hx.len
  go_enter Tryd.func40, Tryd.ntmps40
  go_wp2_with (first
    | (with_reducible refine at_op (o := ⟨some 2, _, _, _, _, _⟩) ?_; refine wpList_boxI rfl 38 _ rfl .u64 xs rfl ?_; intro w1 A1 s1 b1)
    | (with_reducible refine at_op (o := ⟨some 3, _, _, _, _, _⟩) ?_; refine wpList_boxI rfl 22 _ rfl .u8 nb rfl ?_; intro w2 A2 s2 b2; have X2 := A1.below b2)
    | (with_reducible refine at_op (o := ⟨some 4, _, _, _, _, _⟩) ?_; refine wpList_allocI rfl 38 rfl .u64 5 zero_limbs ?_; intro w3 A3 s3 b3; have X3 := X2.below b3; have N3 := A2.below b3)
    | (go_at_call 55; refine (small_any _).mono ?_; rintro e w4 ⟨rfl, b4⟩; have X4 := X3.below b4; have N4 := N3.below b4; have R4 := A3.below b4)
    | (with_reducible refine at_op (o := ⟨some 5, _, _, _, _, _⟩) ?_; refine wpList_newI rfl rfl 38 5 _ rfl rfl rfl rfl .u64 5 zero_limbs info_limbs (by simp) [1, 0, 0, 0, 0] (by simp) (by simp [Act.eval]) rfl ?_; intro w5 B5 h5 l5 D5 b5; have X5 := X4.below b5; have N5 := N4.below b5; have R5 := R4.below b5))
  have hs4 := b4.size
  have q1 : w2.heap.size < B5 := by omega
  go_loopw [9] (fun i wr => ∃ (k : Nat), k ≤ 256 ∧ i = .int .i64 k ∧ Arr .u64 wr w.heap.size xs ∧ Arr .u8 wr w1.heap.size nb ∧ Arr .u64 wr w2.heap.size (List.replicate 5 0) ∧ Arr .u64 wr B5 (powS xs nb k) ∧ Below w.heap.size w wr) (fun i _ => 256 - (intOf i).toNat)
  case atStart => exact ⟨0, by omega, rfl, X5, N5, R5, D5, below_then (below_then (below_then (below_then b1 b2) b3) b4) b5⟩
  case round =>
    obtain ⟨k, hk, rfl, X, NN, R, D, hbel⟩ := hrel
    have hF := powS_fel xs nb u hx hn k hk
    have hFl := hF.len
    by_cases hlt : k < 256
    · obtain ⟨j, hj, hjk, hj5⟩ : ∃ j : Nat, (255 - (k : Int)) = (j : Nat) ∧ 255 - k = j ∧ j < 256 := ⟨255 - k, by omega, rfl, by omega⟩
      have hF2 := times_fel hF hF
      have T1 := fun W => times_any (powS xs nb k) (powS xs nb k) W hF.small hF.small hF.len hF.len
      have T2 := fun W => times_any (carriedS (timesL (powS xs nb k) (powS xs nb k))) xs W hF2.small hx.small hF2.len hx.len
      have hst : powS xs nb (k + 1) = if bitB nb j = 1 then carriedS (timesL (carriedS (timesL (powS xs nb k) (powS xs nb k))) xs) else carriedS (timesL (powS xs nb k) (powS xs nb k)) := by rw [← hjk]; rfl
      have hl2 := hF2.len
      generalize carriedS (timesL (powS xs nb k) (powS xs nb k)) = r2 at *
      have hl3 : (carriedS (timesL r2 xs)).length = 5 := rfl
      generalize carriedS (timesL r2 xs) = r3 at *
      generalize powS xs nb k = r1 at *
      have HST := Lib.hid hst
      clear hst hF hF2
      have hbit := u8_and_one (byte_shift (hn.at (j / 8)) (j % 8))
      have hbd := bitB_bit nb j
      have HB : bitB nb j = bits BinOp.and IntKind.u8 (at0 nb (j / 8) / 2 ^ (j % 8)) 1 := hbit.symm
      rw [HB] at hbd
      have HB := Lib.hid HB
      clear hbit
      have c0 := NN.cell (k := j / 8) (by omega)
      have hx64 := hn.at (j / 8)
      have e2 : (j : Int).tmod 8 = (j : Int) % 8 := rfl
      have e3 : (0 : Int) ≤ (j : Int) / 8 := by omega
      have e4 : (j : Int) / 8 < 32 := by omega
      have e8 : ((j : Int) / 8).toNat = j / 8 := by omega
      have e9 : ((j : Int) % 8).toNat = j % 8 := by omega
      have hm9 : (j : Int) < 256 := by omega
      rcases hbd with h0 | h1
      · go_wp2_with (first
    | (with_reducible refine at_op (o := ⟨some 12, _, _, _, _, _⟩) ?_; refine wpList_loadI rfl 38 _ rfl 5 33 und_limbs info_limbs (B5) rfl .u64 (r1) (D) (hFl) ?_)
    | (with_reducible refine at_op (o := ⟨some 13, _, _, _, _, _⟩) ?_; refine wpList_loadI rfl 38 _ rfl 5 33 und_limbs info_limbs (B5) rfl .u64 (r1) (D) (hFl) ?_)
    | (go_at_call 38; (with_reducible refine (T1 _).mono ?_); rintro e wN ⟨rfl, bN⟩; replace X := X.below bN; replace NN := NN.below bN; replace R := R.below bN; replace D := D.below bN; replace hbel := below_then hbel bN)
    | (with_reducible refine at_op (o := ⟨_, .store 38 (.tmp 5) (.tmp 14), _, _, _, _⟩) ?_; refine wpList_storeI rfl 38 _ _ rfl 5 info_limbs (B5) rfl .u64 _ (r2) rfl D (by first | assumption | rfl) (by first | assumption | rfl) ?_; replace X := X.rowOther (B' := B5) (by omega) ((r2).map (Value.int .u64)).toArray; replace NN := NN.rowOther (B' := B5) (by omega) ((r2).map (Value.int .u64)).toArray; replace R := R.rowOther (B' := B5) (by omega) ((r2).map (Value.int .u64)).toArray; replace hbel := Below.setRow hbel (g := B5) (by omega) ((r2).map (Value.int .u64)).toArray; clear D; intro D; have c0 := NN.cell (k := j / 8) (by omega)))
        have hs := HST.out
        rw [HB.out, h0, if_neg (by decide)] at hs
        exact ⟨⟨k + 1, by omega, by go_num, X, NN, R, by rw [hs]; exact D, hbel⟩, by simp [intOf]; omega⟩
      · go_wp2_with (first
    | (with_reducible refine at_op (o := ⟨some 12, _, _, _, _, _⟩) ?_; refine wpList_loadI rfl 38 _ rfl 5 33 und_limbs info_limbs (B5) rfl .u64 (r1) (D) (hFl) ?_)
    | (with_reducible refine at_op (o := ⟨some 13, _, _, _, _, _⟩) ?_; refine wpList_loadI rfl 38 _ rfl 5 33 und_limbs info_limbs (B5) rfl .u64 (r1) (D) (hFl) ?_)
    | (with_reducible refine at_op (o := ⟨some 26, _, _, _, _, _⟩) ?_; refine wpList_loadI rfl 38 _ rfl 5 33 und_limbs info_limbs (B5) rfl .u64 (r2) (D) (hl2) ?_)
    | (with_reducible refine at_op (o := ⟨some 27, _, _, _, _, _⟩) ?_; refine wpList_loadI rfl 38 _ rfl 5 33 und_limbs info_limbs (w.heap.size) rfl .u64 (xs) (X) (hxl) ?_)
    | (go_at_call 38; first | ((with_reducible refine (T1 _).mono ?_); rintro e wN ⟨rfl, bN⟩; replace X := X.below bN; replace NN := NN.below bN; replace R := R.below bN; replace D := D.below bN; replace hbel := below_then hbel bN) | ((with_reducible refine (T2 _).mono ?_); rintro e wN ⟨rfl, bN⟩; replace X := X.below bN; replace NN := NN.below bN; replace R := R.below bN; replace D := D.below bN; replace hbel := below_then hbel bN))
    | (with_reducible refine at_op (o := ⟨_, .store 38 (.tmp 5) (.tmp 14), _, _, _, _⟩) ?_; refine wpList_storeI rfl 38 _ _ rfl 5 info_limbs (B5) rfl .u64 _ (r2) rfl D (by first | assumption | rfl) (by first | assumption | rfl) ?_; replace X := X.rowOther (B' := B5) (by omega) ((r2).map (Value.int .u64)).toArray; replace NN := NN.rowOther (B' := B5) (by omega) ((r2).map (Value.int .u64)).toArray; replace R := R.rowOther (B' := B5) (by omega) ((r2).map (Value.int .u64)).toArray; replace hbel := Below.setRow hbel (g := B5) (by omega) ((r2).map (Value.int .u64)).toArray; clear D; intro D; have c0 := NN.cell (k := j / 8) (by omega))
    | (with_reducible refine at_op (o := ⟨_, .store 38 (.tmp 5) (.tmp 28), _, _, _, _⟩) ?_; refine wpList_storeI rfl 38 _ _ rfl 5 info_limbs (B5) rfl .u64 _ (r3) rfl D (by first | assumption | rfl) (by first | assumption | rfl) ?_; replace X := X.rowOther (B' := B5) (by omega) ((r3).map (Value.int .u64)).toArray; replace NN := NN.rowOther (B' := B5) (by omega) ((r3).map (Value.int .u64)).toArray; replace R := R.rowOther (B' := B5) (by omega) ((r3).map (Value.int .u64)).toArray; replace hbel := Below.setRow hbel (g := B5) (by omega) ((r3).map (Value.int .u64)).toArray; clear D; intro D; have c0 := NN.cell (k := j / 8) (by omega)))
        have hs := HST.out
        rw [HB.out, h1, if_pos rfl] at hs
        exact ⟨⟨k + 1, by omega, by go_num, X, NN, R, by rw [hs]; exact D, hbel⟩, by simp [intOf]; omega⟩
    · obtain rfl : k = 256 := by omega
      obtain ⟨r1, hr1⟩ : ∃ r1, powS xs nb 256 = r1 := ⟨_, rfl⟩
      rw [hr1] at D hFl
      have HR1 := Lib.hid hr1
      clear hF hr1
      go_wp2_with (first
    | (with_reducible refine at_op (o := ⟨some 30, _, _, _, _, _⟩) ?_; refine wpList_loadI rfl 38 _ rfl 5 33 und_limbs info_limbs (B5) rfl .u64 (r1) (D) (hFl) ?_)
    | (with_reducible refine at_op (o := ⟨_, .store 38 _ _, _, _, _, _⟩) ?_; refine wpList_storeI rfl 38 _ _ rfl 5 info_limbs (w2.heap.size) rfl .u64 _ (r1) rfl (R) (rfl) (hFl) ?_; intro A9))
      refine bodyPost_ret (results_cellI rfl _ 5 33 und_limbs info_limbs (w2.heap.size) rfl .u64 _ A9 (hFl)) rfl ?_
      exact ⟨by rw [HR1.out], Below.setRow hbel (by omega) _⟩
end Go.Proofs.YtlhloldjlfcchaaDoor
