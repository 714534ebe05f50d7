/- Merged: The reference's fold. The reference's fold, walked. Products, word by word (the same as in XTimA, seat c), and a row of the reference's product. The reference's product. The reference's product of bytes. The reference's powers: Take. The reference's inverses and powers. -/
import Derived.Test.YtelppapkffjmpaaDoorMD
section
namespace Go.Proofs.YtelppapkffjmpaaDoor
open Go.RowKit Go.Shelf
set_option linter.unusedVariables false
set_option maxRecDepth 8000

/-- What is carried behind m words of 38 times a number. -/
def m38C (xs : List Int) : Nat → Int
  | 0 => 0
  | m + 1 => (at0 xs m * 38 + m38C xs m) / 18446744073709551616
def m38W (xs : List Int) (m : Nat) : Int := (at0 xs m * 38 + m38C xs m) % 18446744073709551616
def m38S (xs : List Int) (n : Nat) : List Int := (List.range n).map (m38W xs)
theorem m38C_lt (xs : List Int) (hx : Words xs) (m : Nat) : 0 ≤ m38C xs m ∧ m38C xs m < 38 := by
  induction m with
  | zero => simp [m38C]
  | succ m ih => have := hx.at m; simp only [m38C]; omega
theorem m38S_words (xs : List Int) (n : Nat) : Words (m38S xs n) := by
  intro x hx
  simp only [m38S, List.mem_map] at hx
  obtain ⟨k, _, rfl⟩ := hx
  unfold m38W; omega
theorem m38_val (xs : List Int) (hx : Words xs) (n m : Nat) (hm : m ≤ n) : valW (m38S xs n) m + m38C xs m * 2 ^ (64 * m) = 38 * valW xs m := by
  induction m with
  | zero => simp [valW, m38C]
  | succ m ih =>
    have h0 := ih (by omega)
    have e : at0 (m38S xs n) m = m38W xs m := by simp [m38S, at0, show m < n by omega]
    simp only [valW, m38C, e]
    rw [pow_split]
    unfold m38W
    generalize (2 : Int) ^ (64 * m) = q at *
    have h1 := Int.emod_add_mul_ediv (at0 xs m * 38 + m38C xs m) 18446744073709551616
    generalize (at0 xs m * 38 + m38C xs m) / 18446744073709551616 = d at *
    generalize (at0 xs m * 38 + m38C xs m) % 18446744073709551616 = r at *
    have e1 : r * q + d * (q * 18446744073709551616) = (r + 18446744073709551616 * d) * q := by grind
    have e2 : (at0 xs m * 38 + m38C xs m) * q = 38 * (at0 xs m * q) + m38C xs m * q := by grind
    rw [Int.add_assoc, e1, h1, e2]
    have e3 : 38 * (valW xs m + at0 xs m * q) = 38 * valW xs m + 38 * (at0 xs m * q) := by grind
    omega
/-- A sum that may run over. -/
theorem ref_plus_g (u v : Int) (w : World) (hu : 0 ≤ u ∧ u < 2 ^ 256) (hv : 0 ≤ v ∧ v < 2 ^ 256) : Calls Tryd.prog 64 #[aggI .u64 (numW 4 u), aggI .u64 (numW 4 v)] w fun e w' => e = .returned (.tuple #[aggI .u64 (numW 4 ((u + v) % 2 ^ 256)), .int .u64 ((u + v) / 2 ^ 256)]) ∧ Below w.heap.size w w' := by
  have h1 := ref_plus_any _ _ w (numW_words 4 u) (numW_words 4 v) (numW_length _ _) (numW_length _ _)
  have e := val_addW (numW 4 u) (numW 4 v) (numW_words _ _) (numW_words _ _) 4 4 (Nat.le_refl _)
  rw [numW_val hu.1 hu.2, numW_val hv.1 hv.2] at e
  have hs := valW_lt (addS (numW 4 u) (numW 4 v) 4) (addS_words _ _ _) 4
  have hw : addS (numW 4 u) (numW 4 v) 4 = numW 4 ((u + v) % 2 ^ 256) := by
    refine numW_eq (addS_words _ _ _) (by simp [addS]) ?_
    simp only [Nat.reduceMul, Int.reducePow] at *
    omega
  have hc : crw (numW 4 u) (numW 4 v) 4 = (u + v) / 2 ^ 256 := by
    simp only [Nat.reduceMul, Int.reducePow] at *
    omega
  rw [hw, hc] at h1
  exact h1
theorem m38_num (v : Int) (hv : 0 ≤ v ∧ v < 2 ^ 256) : m38S (numW 4 v) 4 = numW 4 (38 * v % 2 ^ 256) ∧ m38C (numW 4 v) 4 = 38 * v / 2 ^ 256 := by
  have e := m38_val (numW 4 v) (numW_words _ _) 4 4 (Nat.le_refl _)
  rw [numW_val hv.1 hv.2] at e
  have hs := valW_lt (m38S (numW 4 v) 4) (m38S_words _ _) 4
  constructor
  · refine numW_eq (m38S_words _ _) (by simp [m38S]) ?_
    simp only [Nat.reduceMul, Int.reducePow] at *
    omega
  · simp only [Nat.reduceMul, Int.reducePow] at *
    omega
/-- What fold comes to. -/
theorem fold_mod (lo hi t c s k s2 k2 s3 : Int) (hlo : 0 ≤ lo ∧ lo < 2 ^ 256) (hhi : 0 ≤ hi ∧ hi < 2 ^ 256) (ht : t = 38 * hi % 2 ^ 256) (hc : c = 38 * hi / 2 ^ 256) (hs : s = (lo + t) % 2 ^ 256) (hk : k = (lo + t) / 2 ^ 256)
    (hs2 : s2 = (s + (c + k) * 38) % 2 ^ 256) (hk2 : k2 = (s + (c + k) * 38) / 2 ^ 256) (hs3 : s3 = s2 + k2 * 38) : s3 % pV = (lo + hi * 2 ^ 256) % pV ∧ 0 ≤ s3 ∧ s3 < 2 ^ 256 ∧ 0 ≤ c ∧ c < 38 ∧ 0 ≤ k ∧ k ≤ 1 ∧ 0 ≤ k2 ∧ k2 ≤ 1 := by
  have hp : (2 : Int) ^ 256 = 2 * pV + 38 := by decide +kernel
  have hpv : 1000000 < pV := by decide +kernel
  have e : lo + hi * 2 ^ 256 = s3 + (2 * hi + 2 * c + 2 * k + 2 * k2) * pV := by
    have a1 := Int.emod_add_mul_ediv (38 * hi) (2 ^ 256)
    have a2 := Int.emod_add_mul_ediv (lo + t) (2 ^ 256)
    have a3 := Int.emod_add_mul_ediv (s + (c + k) * 38) (2 ^ 256)
    rw [← ht, ← hc] at a1
    rw [← hs, ← hk] at a2
    rw [← hs2, ← hk2] at a3
    rw [hp] at a1 a2 a3 ⊢
    subst hs3
    clear ht hc hs hk hs2 hk2 hp hlo hhi
    generalize pV = p at *
    grind
  refine ⟨by rw [e, Int.add_mul_emod_self_right], ?_⟩
  generalize (2 : Int) ^ 256 = M at *
  have c1 : 0 ≤ c ∧ c < 38 := by
    subst hc
    refine ⟨Int.ediv_nonneg (by omega) (by omega), Int.ediv_lt_of_lt_mul (by omega) (by omega)⟩
  have t1 : 0 ≤ t ∧ t < M := by
    subst ht
    exact ⟨Int.emod_nonneg _ (by omega), Int.emod_lt_of_pos _ (by omega)⟩
  have k1 : 0 ≤ k ∧ k < 2 := by
    subst hk
    exact ⟨Int.ediv_nonneg (by omega) (by omega), Int.ediv_lt_of_lt_mul (by omega) (by omega)⟩
  have s1 : 0 ≤ s ∧ s < M := by
    subst hs
    exact ⟨Int.emod_nonneg _ (by omega), Int.emod_lt_of_pos _ (by omega)⟩
  have k3 : 0 ≤ k2 ∧ k2 < 2 := by
    subst hk2
    exact ⟨Int.ediv_nonneg (by omega) (by omega), Int.ediv_lt_of_lt_mul (by omega) (by omega)⟩
  have s4 : 0 ≤ s2 ∧ s2 < M := by
    subst hs2
    exact ⟨Int.emod_nonneg _ (by omega), Int.emod_lt_of_pos _ (by omega)⟩
  have a3 := Int.emod_add_mul_ediv (s + (c + k) * 38) M
  rw [← hs2, ← hk2] at a3
  refine ⟨by omega, ?_, c1.1, c1.2, k1.1, by omega, k3.1, by omega⟩
  have : k2 = 0 ∨ k2 = 1 := by omega
  rcases this with rfl | rfl
  · omega
  · omega
end Go.Proofs.YtelppapkffjmpaaDoor
end
section
namespace Go.Proofs.YtelppapkffjmpaaDoor
open Go.RowKit Go.Shelf
set_option linter.unusedVariables false
set_option maxRecDepth 8000

theorem built_num1' (a : Int) : Tryd.prog.built 36 [(0, .int .u64 a)] = some (([a, 0, 0, 0] : List Int).map (Value.int .u64)).toArray := by kernel_rfl
theorem num1 (a : Int) (h0 : 0 ≤ a) (h1 : a < 18446744073709551616) : numW 4 a = [a, 0, 0, 0] := by
  symm
  refine numW_eq (fun x hx => by simp at hx; omega) rfl ?_
  simp [valW, at0]
set_option maxHeartbeats 1000000 in
theorem ref_fold_v (lo hi : Int) (w : World) (hlo : 0 ≤ lo ∧ lo < 2 ^ 256) (hhi : 0 ≤ hi ∧ hi < 2 ^ 256) :
    Calls Tryd.prog 84 #[aggI .u64 (numW 4 lo), aggI .u64 (numW 4 hi)] w fun e w' => e = .returned (aggI .u64 (numW 4 ((lo + hi * 2 ^ 256) % pV))) ∧ Below w.heap.size w w' := by
  obtain ⟨r, hr0⟩ : ∃ r, (lo + hi * 2 ^ 256) % pV = r := ⟨_, rfl⟩
  rw [hr0]
  obtain ⟨t, ht⟩ : ∃ t, t = 38 * hi % 2 ^ 256 := ⟨_, rfl⟩
  obtain ⟨c, hc⟩ : ∃ c, c = 38 * hi / 2 ^ 256 := ⟨_, rfl⟩
  obtain ⟨s, hs⟩ : ∃ s, s = (lo + t) % 2 ^ 256 := ⟨_, rfl⟩
  obtain ⟨k, hk⟩ : ∃ k, k = (lo + t) / 2 ^ 256 := ⟨_, rfl⟩
  obtain ⟨pB, hs2⟩ : ∃ pB, pB = (s + (c + k) * 38) % 2 ^ 256 := ⟨_, rfl⟩
  obtain ⟨k2, hk2⟩ : ∃ k2, k2 = (s + (c + k) * 38) / 2 ^ 256 := ⟨_, rfl⟩
  obtain ⟨pC, hs3⟩ : ∃ pC, pC = pB + k2 * 38 := ⟨_, rfl⟩
  obtain ⟨f0, f1, f2, f3, f4, f5, f6, f7, f8⟩ := fold_mod lo hi t c s k pB k2 pC hlo hhi ht hc hs hk hs2 hk2 hs3
  have hp256 : (100000 : Int) < 2 ^ 256 := by decide +kernel
  have t1 : 0 ≤ t ∧ t < 2 ^ 256 := by subst ht; exact ⟨Int.emod_nonneg _ (by omega), Int.emod_lt_of_pos _ (by omega)⟩
  have s1' : 0 ≤ s ∧ s < 2 ^ 256 := by subst hs; exact ⟨Int.emod_nonneg _ (by omega), Int.emod_lt_of_pos _ (by omega)⟩
  have pB' : 0 ≤ pB ∧ pB < 2 ^ 256 := by subst hs2; exact ⟨Int.emod_nonneg _ (by omega), Int.emod_lt_of_pos _ (by omega)⟩
  have PL1 := fun W => ref_plus_g lo t W hlo t1
  rw [← hs, ← hk] at PL1
  have PL2 : ∀ W d, d = (c + k) * 38 → Calls Tryd.prog 64 #[aggI .u64 (numW 4 s), aggI .u64 [d, 0, 0, 0]] W fun e w' => e = .returned (.tuple #[aggI .u64 (numW 4 pB), .int .u64 k2]) ∧ Below W.heap.size W w' := by
    intro W d hd
    have h := ref_plus_g s d W s1' ⟨by omega, by omega⟩
    rw [hd, ← hs2, ← hk2, num1 ((c + k) * 38) (by omega) (by omega)] at h
    rw [hd]
    exact h
  have CU := fun W => ref_cut_v pC W ⟨f1, f2⟩
  rw [f0, hr0] at CU
  have PL3 : k2 = 1 → ∀ W, Calls Tryd.prog 64 #[aggI .u64 (numW 4 pB), aggI .u64 [38, 0, 0, 0]] W fun e w' => e = .returned (.tuple #[aggI .u64 (numW 4 pC), .int .u64 0]) ∧ Below W.heap.size W w' := by
    intro h1 W
    have h := ref_plus_v pB 38 W pB'.1 (by omega) (by omega)
    rw [num1 38 (by omega) (by omega), show pB + 38 = pC by omega] at h
    exact h
  have HT := Lib.hid (m38_num hi hhi)
  rw [← ht, ← hc] at HT
  have h01 : k2 = 0 ∨ k2 = 1 := by omega
  have h30 : k2 = 0 → pC = pB := by omega
  clear hr0 hs hk hs2 hk2 hs3 f0 ht hc
  generalize hhs : numW 4 hi = hs at *
  have hW : Words hs := by rw [← hhs]; exact numW_words _ _
  have hl : hs.length = 4 := by rw [← hhs]; exact numW_length _ _
  clear hhs
  go_enter Tryd.func84, Tryd.ntmps84
  go_wp2_with (first
    | (with_reducible refine at_n 2 ?_; refine wpList_boxI rfl 36 _ rfl .u64 (numW 4 lo) rfl ?_; intro w1 A1 s1 b1)
    | (with_reducible refine at_n 3 ?_; refine wpList_boxI rfl 36 _ rfl .u64 hs rfl ?_; intro w2 A2 s2 b2; have X2 := A1.below b2)
    | (with_reducible refine at_n 4 ?_; refine wpList_allocI rfl 36 rfl .u64 4 zero_num ?_; intro w3 A3 s3 b3; have X3 := X2.below b3; have Y3 := A2.below b3)
    | (with_reducible refine at_n 5 ?_; refine wpList_allocI rfl 36 rfl .u64 4 zero_num ?_; intro w4 A4 s4 b4; have X4 := X3.below b4; have Y4 := Y3.below b4; have R4 := A3.below b4))
  go_loopw [6, 7] (fun cc i wr => ∃ (j : Nat) (ds : List Int), j ≤ 4 ∧ i = .int .i64 j ∧ cc = .int .u64 (m38C hs j) ∧ Arr .u64 wr w.heap.size (numW 4 lo) ∧ Arr .u64 wr w1.heap.size hs ∧ Arr .u64 wr w2.heap.size (List.replicate 4 0) ∧ Arr .u64 wr w3.heap.size ds ∧ ds.length = 4 ∧ (∀ n, n < j → at0 ds n = m38W hs n) ∧ Below w.heap.size w wr) (fun _ i _ => 4 - (intOf i).toNat)
  case atStart => exact ⟨0, _, by omega, rfl, rfl, X4, Y4, R4, A4, by simp, fun n hn => by omega, below_then (below_then (below_then b1 b2) b3) b4⟩
  case round =>
    obtain ⟨j, ds, hj, rfl, rfl, A, BY, RR, DD, hd, hv, BB⟩ := hrel
    by_cases hlt : j < 4
    · have c1 := BY.cell (k := j) (by omega)
      have c2 := DD.cell (k := j) (by omega)
      have fr := DD.free (k := j) (by omega)
      have hx := hW.at j
      have hcl := m38C_lt hs hW j
      have hnext : m38C hs (j + 1) = (at0 hs j * 38 + m38C hs j) / 18446744073709551616 := rfl
      have hval : m38W hs j = (at0 hs j * 38 + m38C hs j) % 18446744073709551616 := rfl
      have hM := mul64_int (at0 hs j) 38 ⟨hx.1, by omega⟩ (by omega)
      obtain ⟨hh, e1⟩ : ∃ hh, hh = at0 hs j * 38 / 18446744073709551616 := ⟨_, rfl⟩
      obtain ⟨ll, e2⟩ : ∃ ll, ll = at0 hs j * 38 % 18446744073709551616 := ⟨_, rfl⟩
      rw [← e1, ← e2] at hM
      have hA := add64_run ll (m38C hs j) 0 (by omega) (by omega) (by omega) (by omega)
      obtain ⟨ss, e3⟩ : ∃ ss, ss = (ll + m38C hs j + 0) % 18446744073709551616 := ⟨_, rfl⟩
      obtain ⟨kk, e4⟩ : ∃ kk, kk = (ll + m38C hs j + 0) / 18446744073709551616 := ⟨_, rfl⟩
      rw [← e3, ← e4] at hA
      have hsv : m38W hs j = ss := by omega
      have hcv : m38C hs (j + 1) = hh + kk := by omega
      have hh1 : 0 ≤ hh ∧ hh < 38 := by omega
      have kk1 : 0 ≤ kk ∧ kk ≤ 1 := by omega
      have hsb : 0 ≤ ss ∧ ss < 18446744073709551616 := by omega
      clear hval hnext e1 e2 e3 e4
      have HV := Lib.hid hv
      have HS := Lib.hid hsv
      have HC := Lib.hid hcv
      clear hv hsv hcv
      go_wp2_with (first
    | (go_at_call 77; refine (hM _).mono ?_; rintro e w' ⟨rfl, rfl⟩))

      refine ⟨⟨j + 1, ds.set j ss, by omega, by go_num, by rw [HC.out], A.setOther (by omega) _ _, BY.setOther (by omega) _ _, RR.setOther (by omega) _ _, DD.set _ _, by simp [hd], fun n hn => ?_, BB.setCell (by show w.heap.size ≤ w3.heap.size; omega) _⟩, by simp [intOf]; omega⟩
      rw [at0_set ds j n _ (by omega)]
      by_cases e : n = j
      · rw [if_pos e, e]; exact HS.out.symm
      · rw [if_neg e]; exact HV.out n (by omega)
    · obtain rfl : j = 4 := by omega
      have hys : ds = numW 4 t := by
        rw [← HT.out.1]
        apply eq_of_all (by simp [m38S, hd])
        intro n h
        rw [hv n (by omega)]
        simp [m38S, at0, show n < 4 by omega]
      subst hys
      rw [HT.out.2]
      clear hv
      rcases h01 with rfl | rfl
      · rw [h30 rfl] at CU
        clear PL3 h30
        go_wp2_with (first
            | (with_reducible refine at_n 38 ?_; refine wpList_loadI rfl 36 _ rfl 4 34 und_num info_num (w.heap.size) rfl .u64 (numW 4 lo) (A) (numW_length _ _) ?_)
            | (with_reducible refine at_n 39 ?_; refine wpList_loadI rfl 36 _ rfl 4 34 und_num info_num (w3.heap.size) rfl .u64 (numW 4 t) (DD) (numW_length _ _) ?_)
            | (go_at_call 64; first | ((with_reducible refine (PL1 _).mono ?_); rintro e w5 ⟨rfl, b5⟩; replace RR := RR.below b5; replace BB := below_then BB b5; have z5 := BB.size; have y5 := RR.lt) | ((with_reducible refine (PL2 _ _ (by omega)).mono ?_); rintro e w7 ⟨rfl, b7⟩; have S7 := S6.below b7; replace RR := RR.below b7; replace BB := below_then BB b7))
            | (with_reducible refine at_n 12 ?_; refine wpList_allocI rfl 36 rfl .u64 4 zero_num ?_; intro w6 A6 s6 b6; replace RR := RR.below b6; replace BB := below_then BB b6)
            | (with_reducible refine at_op (o := ⟨_, .store 36 (.tmp 12) (.tmp 41), _, _, _, _⟩) ?_; refine wpList_storeI rfl 36 _ _ rfl 4 info_num (w5.heap.size) rfl .u64 _ (numW 4 s) rfl (A6) (rfl) (numW_length _ _) ?_; intro S6; have R9 := RR.rowOther (B' := w5.heap.size) (by omega) ((numW 4 s).map (Value.int .u64)).toArray; have B9 := Below.setRow BB (g := w5.heap.size) (by omega) ((numW 4 s).map (Value.int .u64)).toArray; replace RR := R9; replace BB := B9)
            | (with_reducible refine at_n 44 ?_; refine wpList_loadI rfl 36 _ rfl 4 34 und_num info_num (w5.heap.size) rfl .u64 (numW 4 s) (S6) (numW_length _ _) ?_)
            | (with_reducible refine at_n 49 ?_; refine wpList_buildI rfl 36 _ rfl .u64 [_, 0, 0, 0] _ (built_num1' _) rfl ?_)
            | (with_reducible refine at_op (o := ⟨_, .store 36 (.tmp 12) (.tmp 51), _, _, _, _⟩) ?_; refine wpList_storeI rfl 36 _ _ rfl 4 info_num (w5.heap.size) rfl .u64 _ (numW 4 pB) rfl (S7) (numW_length _ _) (numW_length _ _) ?_; intro S8; have R9 := RR.rowOther (B' := w5.heap.size) (by omega) ((numW 4 pB).map (Value.int .u64)).toArray; have B9 := Below.setRow BB (g := w5.heap.size) (by omega) ((numW 4 pB).map (Value.int .u64)).toArray; replace RR := R9; replace BB := B9)
            | (with_reducible refine at_n 61 ?_; refine wpList_loadI rfl 36 _ rfl 4 34 und_num info_num (w5.heap.size) rfl .u64 (numW 4 pB) (S8) (numW_length _ _) ?_)
            | (go_at_call 85; refine (CU _).mono ?_; rintro e w10 ⟨rfl, b10⟩; replace RR := RR.below b10; replace BB := below_then BB b10)
            | (with_reducible refine at_op (o := ⟨_, .store 36 (.tmp 4) _, _, _, _, _⟩) ?_; refine wpList_storeI rfl 36 _ _ rfl 4 info_num (w2.heap.size) rfl .u64 _ (numW 4 r) rfl (RR) (rfl) (numW_length _ _) ?_; intro A9))
        refine bodyPost_ret (results_cellI rfl _ 4 34 und_num info_num (w2.heap.size) rfl .u64 _ A9 (numW_length _ _)) rfl ?_
        exact ⟨rfl, Below.setRow BB (by omega) _⟩
      · replace PL3 := PL3 rfl
        clear h30
        go_wp2_with (first
            | (with_reducible refine at_n 38 ?_; refine wpList_loadI rfl 36 _ rfl 4 34 und_num info_num (w.heap.size) rfl .u64 (numW 4 lo) (A) (numW_length _ _) ?_)
            | (with_reducible refine at_n 39 ?_; refine wpList_loadI rfl 36 _ rfl 4 34 und_num info_num (w3.heap.size) rfl .u64 (numW 4 t) (DD) (numW_length _ _) ?_)
            | (go_at_call 64; first | ((with_reducible refine (PL1 _).mono ?_); rintro e w5 ⟨rfl, b5⟩; replace RR := RR.below b5; replace BB := below_then BB b5; have z5 := BB.size; have y5 := RR.lt) | ((with_reducible refine (PL2 _ _ (by omega)).mono ?_); rintro e w7 ⟨rfl, b7⟩; have S7 := S6.below b7; replace RR := RR.below b7; replace BB := below_then BB b7) | ((with_reducible refine (PL3 _).mono ?_); rintro e w8 ⟨rfl, b8⟩; have S9 := S8.below b8; replace RR := RR.below b8; replace BB := below_then BB b8))
            | (with_reducible refine at_n 12 ?_; refine wpList_allocI rfl 36 rfl .u64 4 zero_num ?_; intro w6 A6 s6 b6; replace RR := RR.below b6; replace BB := below_then BB b6)
            | (with_reducible refine at_op (o := ⟨_, .store 36 (.tmp 12) (.tmp 41), _, _, _, _⟩) ?_; refine wpList_storeI rfl 36 _ _ rfl 4 info_num (w5.heap.size) rfl .u64 _ (numW 4 s) rfl (A6) (rfl) (numW_length _ _) ?_; intro S6; have R9 := RR.rowOther (B' := w5.heap.size) (by omega) ((numW 4 s).map (Value.int .u64)).toArray; have B9 := Below.setRow BB (g := w5.heap.size) (by omega) ((numW 4 s).map (Value.int .u64)).toArray; replace RR := R9; replace BB := B9)
            | (with_reducible refine at_n 44 ?_; refine wpList_loadI rfl 36 _ rfl 4 34 und_num info_num (w5.heap.size) rfl .u64 (numW 4 s) (S6) (numW_length _ _) ?_)
            | (with_reducible refine at_n 49 ?_; refine wpList_buildI rfl 36 _ rfl .u64 [_, 0, 0, 0] _ (built_num1' _) rfl ?_)
            | (with_reducible refine at_op (o := ⟨_, .store 36 (.tmp 12) (.tmp 51), _, _, _, _⟩) ?_; refine wpList_storeI rfl 36 _ _ rfl 4 info_num (w5.heap.size) rfl .u64 _ (numW 4 pB) rfl (S7) (numW_length _ _) (numW_length _ _) ?_; intro S8; have R9 := RR.rowOther (B' := w5.heap.size) (by omega) ((numW 4 pB).map (Value.int .u64)).toArray; have B9 := Below.setRow BB (g := w5.heap.size) (by omega) ((numW 4 pB).map (Value.int .u64)).toArray; replace RR := R9; replace BB := B9)
            | (with_reducible refine at_n 56 ?_; refine wpList_loadI rfl 36 _ rfl 4 34 und_num info_num (w5.heap.size) rfl .u64 (numW 4 pB) (S8) (numW_length _ _) ?_)
            | (with_reducible refine at_n 57 ?_; refine wpList_buildI rfl 36 _ rfl .u64 [_, 0, 0, 0] _ (built_num1' _) rfl ?_)
            | (with_reducible refine at_op (o := ⟨_, .store 36 (.tmp 12) (.tmp 59), _, _, _, _⟩) ?_; refine wpList_storeI rfl 36 _ _ rfl 4 info_num (w5.heap.size) rfl .u64 _ (numW 4 pC) rfl (S9) (numW_length _ _) (numW_length _ _) ?_; intro SA; have R9 := RR.rowOther (B' := w5.heap.size) (by omega) ((numW 4 pC).map (Value.int .u64)).toArray; have B9 := Below.setRow BB (g := w5.heap.size) (by omega) ((numW 4 pC).map (Value.int .u64)).toArray; replace RR := R9; replace BB := B9)
            | (with_reducible refine at_n 61 ?_; refine wpList_loadI rfl 36 _ rfl 4 34 und_num info_num (w5.heap.size) rfl .u64 (numW 4 pC) (SA) (numW_length _ _) ?_)
            | (go_at_call 85; refine (CU _).mono ?_; rintro e w10 ⟨rfl, b10⟩; replace RR := RR.below b10; replace BB := below_then BB b10)
            | (with_reducible refine at_op (o := ⟨_, .store 36 (.tmp 4) _, _, _, _, _⟩) ?_; refine wpList_storeI rfl 36 _ _ rfl 4 info_num (w2.heap.size) rfl .u64 _ (numW 4 r) rfl (RR) (rfl) (numW_length _ _) ?_; intro A9))
        refine bodyPost_ret (results_cellI rfl _ 4 34 und_num info_num (w2.heap.size) rfl .u64 _ A9 (numW_length _ _)) rfl ?_
        exact ⟨rfl, Below.setRow BB (by omega) _⟩
end Go.Proofs.YtelppapkffjmpaaDoor
end
section
namespace Go.Proofs.YtelppapkffjmpaaDoor
open Go.RowKit Go.Shelf
set_option linter.unusedVariables false

theorem valW_set (zs : List Int) (k : Nat) (x : Int) (hk : k < zs.length) (n : Nat) : valW (zs.set k x) n = valW zs n + (if k < n then (x - at0 zs k) * 2 ^ (64 * k) else 0) := by
  induction n with
  | zero => simp [valW]
  | succ n ih =>
    simp only [valW, ih, at0_set zs k n x hk]
    by_cases e : n = k
    · subst e
      rw [if_neg (Nat.lt_irrefl _), if_pos rfl, if_pos (by omega)]
      generalize (2 : Int) ^ (64 * n) = p
      grind
    · rw [if_neg e]
      by_cases h : k < n
      · rw [if_pos h, if_pos (by omega)]; omega
      · rw [if_neg h, if_neg (by omega)]; omega
theorem Words.set {zs : List Int} (h : Words zs) (k : Nat) {x : Int} (hx : 0 ≤ x ∧ x < 18446744073709551616) : Words (zs.set k x) := fun y hy => by
  rcases List.mem_or_eq_of_mem_set hy with h1 | h1
  · exact h y h1
  · exact h1 ▸ hx
/-- A product of words, and two words more. -/
theorem mul_words {x y p c : Int} (hx : 0 ≤ x ∧ x < 18446744073709551616) (hy : 0 ≤ y ∧ y < 18446744073709551616) : 0 ≤ x * y ∧ x * y ≤ 340282366920938463426481119284349108225 := by
  refine ⟨Int.mul_nonneg hx.1 hy.1, ?_⟩
  have h1 : x * y ≤ 18446744073709551615 * y := Int.mul_le_mul_of_nonneg_right (by omega) hy.1
  omega
/-- The numbers that one step makes: of a product m, a word p of the sum, and what is carried. -/
theorem mul_step (x y p c : Int) (hx : 0 ≤ x ∧ x < 18446744073709551616) (hy : 0 ≤ y ∧ y < 18446744073709551616) (hp : 0 ≤ p ∧ p < 18446744073709551616) (hc : 0 ≤ c ∧ c < 18446744073709551616) :
    ∃ h l l1 o1 h1 l2 o2 c2 : Int, (∀ w, Calls Tryd.prog 77 #[.int .u64 x, .int .u64 y] w fun e w' => e = .returned (.tuple #[.int .u64 h, .int .u64 l]) ∧ w' = w) ∧
      (∀ w, (callFunc 78 #[.int .u64 l, .int .u64 p, .int .u64 0]).run Tryd.prog w = .ok (.value (.tuple #[.int .u64 l1, .int .u64 o1])) w) ∧ IntKind.u64.wrap (h + o1) = h1 ∧
      (∀ w, (callFunc 78 #[.int .u64 l1, .int .u64 c, .int .u64 0]).run Tryd.prog w = .ok (.value (.tuple #[.int .u64 l2, .int .u64 o2])) w) ∧ IntKind.u64.wrap (h1 + o2) = c2 ∧
      (0 ≤ l2 ∧ l2 < 18446744073709551616) ∧ (0 ≤ c2 ∧ c2 < 18446744073709551616) ∧ l2 + c2 * 18446744073709551616 = x * y + p + c := by
  have hm := mul_words (p := p) (c := c) hx hy
  have hM : ∀ w, Calls Tryd.prog 77 #[.int .u64 x, .int .u64 y] w fun e w' => e = .returned (.tuple #[.int .u64 (x * y / 18446744073709551616), .int .u64 (x * y % 18446744073709551616)]) ∧ w' = w := by
    intro w
    obtain ⟨a, rfl⟩ := Int.eq_ofNat_of_zero_le hx.1
    obtain ⟨b, rfl⟩ := Int.eq_ofNat_of_zero_le hy.1
    exact Tryd.bits_Mul64 a b (by omega) (by omega) w
  generalize x * y = m at *
  refine ⟨_, _, _, _, _, _, _, _, hM, fun w => add64_run (m % 18446744073709551616) p 0 (by omega) hp.1 (by omega) (by omega) w, rfl, fun w => add64_run ((m % 18446744073709551616 + p + 0) % 18446744073709551616) c 0 (by omega) hc.1 (by omega) (by omega) w, rfl, ?_, ?_, ?_⟩
  · omega
  · rw [wrap_u64_eq, wrap_u64_eq]; omega
  · rw [wrap_u64_eq, wrap_u64_eq]; omega
theorem add_step (p c : Int) (hp : 0 ≤ p ∧ p < 18446744073709551616) (hc : 0 ≤ c ∧ c < 18446744073709551616) :
    ∃ l c2 : Int, (∀ w, (callFunc 78 #[.int .u64 p, .int .u64 c, .int .u64 0]).run Tryd.prog w = .ok (.value (.tuple #[.int .u64 l, .int .u64 c2])) w) ∧
      (0 ≤ l ∧ l < 18446744073709551616) ∧ (0 ≤ c2 ∧ c2 < 18446744073709551616) ∧ l + c2 * 18446744073709551616 = p + c := by
  refine ⟨_, _, fun w => add64_run p c 0 hp.1 hc.1 (by omega) (by omega) w, ?_, ?_, ?_⟩ <;> omega
/-- One step of a row: its word, and what is carried. -/
theorem row_step (ps xs ys : List Int) (k j : Nat) (p0 c l c2 : Int) (hl : ps.length = 8) (hk : k < 4) (hj : j < 4)
    (h : valW ps 8 + c * 2 ^ (64 * (k + j)) = p0 + at0 xs k * valW ys j * 2 ^ (64 * k)) (he : l + c2 * 18446744073709551616 = at0 xs k * at0 ys j + at0 ps (k + j) + c) :
    valW (ps.set (k + j) l) 8 + c2 * 2 ^ (64 * (k + (j + 1))) = p0 + at0 xs k * valW ys (j + 1) * 2 ^ (64 * k) := by
  rw [valW_set ps (k + j) l (by omega), if_pos (by omega), show k + (j + 1) = k + j + 1 by omega, pow_split, valW.eq_2 ys j]
  rw [show 64 * (k + j) = 64 * k + 64 * j by omega, Int.pow_add] at *
  generalize (2 : Int) ^ (64 * k) = p at *
  generalize (2 : Int) ^ (64 * j) = q at *
  generalize valW ps 8 = v at *
  generalize valW ys j = u at *
  generalize at0 ps (k + j) = a at *
  generalize at0 ys j = b at *
  generalize at0 xs k = x at *
  clear hl hk hj
  grind
/-- A row's end: the word above takes the carry. -/
theorem row_carry (ps : List Int) (k : Nat) (T c : Int) (hl : ps.length = 8) (hk : k < 8) (h0 : at0 ps k = 0) (h : valW ps 8 + c * 2 ^ (64 * k) = T) : valW (ps.set k c) 8 = T := by
  rw [valW_set ps k c (by omega), if_pos hk, h0, Int.sub_zero, h]
theorem at0_set_other (ps : List Int) (k j : Nat) (c : Int) (h : j ≠ k) : at0 (ps.set k c) j = at0 ps j := by
  simp only [at0, List.getElem?_set]
  rw [if_neg (by omega)]
/-- The eight words as two numbers of four. -/
theorem halves (ps : List Int) (hp : Words ps) (hl : ps.length = 8) : valW [at0 ps 0, at0 ps 1, at0 ps 2, at0 ps 3] 4 + valW [at0 ps 4, at0 ps 5, at0 ps 6, at0 ps 7] 4 * 2 ^ 256 = valW ps 8 := by
  have e4 : (2 : Int) ^ (64 * 4) = 2 ^ 256 := rfl
  have e5 : (2 : Int) ^ (64 * 5) = 2 ^ 64 * 2 ^ 256 := by rw [show 64 * 5 = 64 + 256 from rfl, Int.pow_add]
  have e6 : (2 : Int) ^ (64 * 6) = 2 ^ 128 * 2 ^ 256 := by rw [show 64 * 6 = 128 + 256 from rfl, Int.pow_add]
  have e7 : (2 : Int) ^ (64 * 7) = 2 ^ 192 * 2 ^ 256 := by rw [show 64 * 7 = 192 + 256 from rfl, Int.pow_add]
  simp only [valW, at0_cons_zero, at0_cons_succ, e4, e5, e6, e7]
  generalize (2 : Int) ^ 256 = K
  simp only [Nat.reduceMul, Int.reducePow, Nat.mul_zero, Int.pow_zero]
  grind
end Go.Proofs.YtelppapkffjmpaaDoor
end
section
namespace Go.Proofs.YtelppapkffjmpaaDoor
open Go.RowKit Go.Shelf
set_option linter.unusedVariables false
set_option maxRecDepth 8000

theorem und_eight : Tryd.prog.underlying 67 = some (.array 8 34) := by kernel_rfl
theorem info_eight : (Tryd.prog.info? 67).map (·.size) = some 8 := by kernel_rfl
theorem zero_eight : (Tryd.prog.info? 67).bind (·.zero) = some (.agg (Array.replicate 8 (Value.int .u64 0))) := by kernel_rfl
theorem mul_step2 (x y p c : Int) (hx : 0 ≤ x ∧ x < 18446744073709551616) (hy : 0 ≤ y ∧ y < 18446744073709551616) (hp : 0 ≤ p ∧ p < 18446744073709551616) (hc : 0 ≤ c ∧ c < 18446744073709551616) :
    ∃ h l l1 o1 h1 l2 o2 c2 : Int, (∀ w, Calls Tryd.prog 77 #[.int .u64 x, .int .u64 y] w fun e w' => e = .returned (.tuple #[.int .u64 h, .int .u64 l]) ∧ w' = w) ∧
      (∀ w, (callFunc 78 #[.int .u64 p, .int .u64 l, .int .u64 0]).run Tryd.prog w = .ok (.value (.tuple #[.int .u64 l1, .int .u64 o1])) w) ∧ IntKind.u64.wrap (h + o1) = h1 ∧
      (∀ w, (callFunc 78 #[.int .u64 l1, .int .u64 c, .int .u64 0]).run Tryd.prog w = .ok (.value (.tuple #[.int .u64 l2, .int .u64 o2])) w) ∧ IntKind.u64.wrap (h1 + o2) = c2 ∧
      (0 ≤ l2 ∧ l2 < 18446744073709551616) ∧ (0 ≤ c2 ∧ c2 < 18446744073709551616) ∧ l2 + c2 * 18446744073709551616 = x * y + p + c := by
  have hm := mul_words (p := p) (c := c) hx hy
  have hM : ∀ w, Calls Tryd.prog 77 #[.int .u64 x, .int .u64 y] w fun e w' => e = .returned (.tuple #[.int .u64 (x * y / 18446744073709551616), .int .u64 (x * y % 18446744073709551616)]) ∧ w' = w := by
    intro w
    obtain ⟨a, rfl⟩ := Int.eq_ofNat_of_zero_le hx.1
    obtain ⟨b, rfl⟩ := Int.eq_ofNat_of_zero_le hy.1
    exact Tryd.bits_Mul64 a b (by omega) (by omega) w
  generalize x * y = m at *
  refine ⟨_, _, _, _, _, _, _, _, hM, fun w => add64_run p (m % 18446744073709551616) 0 hp.1 (by omega) (by omega) (by omega) w, rfl, fun w => add64_run ((p + m % 18446744073709551616 + 0) % 18446744073709551616) c 0 (by omega) hc.1 (by omega) (by omega) w, rfl, ?_, ?_, ?_⟩
  · omega
  · rw [wrap_u64_eq, wrap_u64_eq]; omega
  · rw [wrap_u64_eq, wrap_u64_eq]; omega
theorem row_next (xs ys : List Int) (k : Nat) (T : Int) (h : T = valW xs k * valW ys 4 + at0 xs k * valW ys 4 * 2 ^ (64 * k)) : T = valW xs (k + 1) * valW ys 4 := by
  have e : valW xs (k + 1) = valW xs k + at0 xs k * 2 ^ (64 * k) := rfl
  rw [h, e]
  clear h e
  generalize (2 : Int) ^ (64 * k) = q
  generalize valW ys 4 = y
  generalize valW xs k = x
  grind
theorem zeros8 : valW (List.replicate 8 0) 8 = 0 := by decide +kernel
theorem at0_zeros8 (j : Nat) : at0 (List.replicate 8 (0 : Int)) j = 0 := by
  simp only [at0, List.getElem?_replicate]; split <;> rfl

set_option maxHeartbeats 1000000 in
theorem ref_prod_any (xs ys : List Int) (w : World) (hx : Words xs) (hy : Words ys) (hxl : xs.length = 4) (hyl : ys.length = 4) :
    Calls Tryd.prog 57 #[aggI .u64 xs, aggI .u64 ys] w fun e w' => e = .returned (aggI .u64 (numW 4 ((valW xs 4 * valW ys 4) % pV))) ∧ Below w.heap.size w w' := by
  go_enter Tryd.func57, Tryd.ntmps57
  go_wp2_with (first
    | (with_reducible refine at_n 2 ?_; refine wpList_boxI rfl 36 _ rfl .u64 xs rfl ?_; intro w1 A1 s1 b1)
    | (with_reducible refine at_n 3 ?_; refine wpList_boxI rfl 36 _ rfl .u64 ys rfl ?_; intro w2 B2 s2 b2; have A2 := A1.below b2)
    | (with_reducible refine at_n 4 ?_; refine wpList_allocI rfl 36 rfl .u64 4 zero_num ?_; intro w3 R3 s3 b3; have A3 := A2.below b3; have B3 := B2.below b3)
    | (with_reducible refine at_n 5 ?_; refine wpList_allocI rfl 67 rfl .u64 8 zero_eight ?_; intro w4 D4 s4 b4; have A4 := A3.below b4; have B4 := B3.below b4; have R4 := R3.below b4))
  go_loopw [6] (fun i wr => ∃ (k : Nat) (ps : List Int), k ≤ 4 ∧ i = .int .i64 k ∧ Arr .u64 wr w.heap.size xs ∧ Arr .u64 wr w1.heap.size ys ∧ Arr .u64 wr w2.heap.size (List.replicate 4 0) ∧ Arr .u64 wr w3.heap.size ps ∧ Words ps ∧ ps.length = 8 ∧ valW ps 8 = valW xs k * valW ys 4 ∧ RowKit.Hid (∀ j, k + 4 ≤ j → at0 ps j = 0) ∧ Below w.heap.size w wr) (fun i _ => 4 - (intOf i).toNat)
  case atStart => exact ⟨0, _, by omega, rfl, A4, B4, R4, D4, fun x h => by simp at h; omega, by simp, by rw [zeros8]; simp [valW], Lib.hid fun j _ => at0_zeros8 j, below_then (below_then (below_then b1 b2) b3) b4⟩
  case round =>
    obtain ⟨k, ps, hk, rfl, A, B, R, D, hpw, hpl, hpv, hpz, hbel⟩ := hrel
    by_cases hlt : k < 4
    · go_wp2
      go_loopw [7, 8] (fun c j wr => ∃ (m : Nat) (qs : List Int) (cr : Int), m ≤ 4 ∧ j = .int .i64 m ∧ c = .int .u64 cr ∧ (0 ≤ cr ∧ cr < 18446744073709551616) ∧ Arr .u64 wr w.heap.size xs ∧ Arr .u64 wr w1.heap.size ys ∧ Arr .u64 wr w2.heap.size (List.replicate 4 0) ∧ Arr .u64 wr w3.heap.size qs ∧ Words qs ∧ qs.length = 8 ∧ valW qs 8 + cr * 2 ^ (64 * (k + m)) = valW xs k * valW ys 4 + at0 xs k * valW ys m * 2 ^ (64 * k) ∧ RowKit.Hid (∀ j, k + 4 ≤ j → at0 qs j = 0) ∧ Below w.heap.size w wr) (fun _ j _ => 4 - (intOf j).toNat)
      case atStart => exact ⟨0, ps, 0, by omega, rfl, rfl, by omega, A, B, R, D, hpw, hpl, by rw [hpv]; simp [valW], hpz, hbel⟩
      case round =>
        clear A B R D hbel hpv hpw hpl hpz
        obtain ⟨m, qs, cr, hm, rfl, rfl, hcr, A, B, R, D, hqw, hql, hqv, hqz, hbel⟩ := hrel
        by_cases hlm : m < 4
        · obtain ⟨h, l, l1, o1, h1, l2, o2, c2, hM, ha1, hw1, ha2, hw2, hl2, hc2, heq⟩ := mul_step2 (at0 xs k) (at0 ys m) (at0 qs (k + m)) cr (hx.at k) (hy.at m) (hqw.at (k + m)) hcr
          have hrow := row_step qs xs ys k m (valW xs k * valW ys 4) cr l2 c2 hql hlt hlm hqv heq
          have hqw2 := hqw.set (k + m) hl2
          have hqz2 := Lib.hid (fun j (hj : k + 4 ≤ j) => (at0_set_other qs (k + m) j l2 (by omega)).trans (hqz.out j hj))
          clear heq hqv
          have c0 := A.cell (k := k) (by omega)
          have c1 := B.cell (k := m) (by omega)
          have c2' := D.cell (k := k + m) (by omega)
          have f0 := D.free (k := k + m) (by omega)
          go_wp2
          go_quiet ((go_at_call 77; exact Calls.quiet_of_same (hM _)))
          go_wp2
          refine ⟨⟨m + 1, _, c2, by omega, by go_num, rfl, hc2, (A.drewN _).setOther (by omega) _ _, (B.drewN _).setOther (by omega) _ _, (R.drewN _).setOther (by omega) _ _, (D.drewN _).set _ _, hqw2, by simp [hql], hrow, hqz2, (below_drewN hbel _).setCell (by show w.heap.size ≤ w3.heap.size; omega) _⟩, by simp [intOf]; omega⟩
        · obtain rfl : m = 4 := by omega
          have hz := hqz.out (k + 4) (by omega)
          have hend := row_next xs ys k _ (row_carry qs (k + 4) _ cr hql (by omega) hz hqv)
          have hqw2 := hqw.set (k + 4) hcr
          have hqz2 := Lib.hid (fun j (hj : k + 1 + 4 ≤ j) => (at0_set_other qs (k + 4) j cr (by omega)).trans (hqz.out j (by omega)))
          have c2' := D.cell (k := k + 4) (by omega)
          have f0 := D.free (k := k + 4) (by omega)
          clear hz hqv
          go_wp2
          exact ⟨⟨k + 1, _, by omega, by go_num, A.setOther (by omega) _ _, B.setOther (by omega) _ _, R.setOther (by omega) _ _, D.set _ _, hqw2, by simp [hql], hend, hqz2, hbel.setCell (by show w.heap.size ≤ w3.heap.size; omega) _⟩, by simp [intOf]; omega⟩
    · obtain rfl : k = 4 := by omega
      have FO : ∀ W, Calls Tryd.prog 84 #[aggI .u64 [at0 ps 0, at0 ps 1, at0 ps 2, at0 ps 3], aggI .u64 [at0 ps 4, at0 ps 5, at0 ps 6, at0 ps 7]] W fun e w' => e = .returned (aggI .u64 (numW 4 ((valW xs 4 * valW ys 4) % pV))) ∧ Below W.heap.size W w' := by
        intro W
        have q1 : Words [at0 ps 0, at0 ps 1, at0 ps 2, at0 ps 3] := fun x h => by simp at h; rcases h with rfl | rfl | rfl | rfl <;> exact hpw.at _
        have q2 : Words [at0 ps 4, at0 ps 5, at0 ps 6, at0 ps 7] := fun x h => by simp at h; rcases h with rfl | rfl | rfl | rfl <;> exact hpw.at _
        have h := ref_fold_v (valW [at0 ps 0, at0 ps 1, at0 ps 2, at0 ps 3] 4) (valW [at0 ps 4, at0 ps 5, at0 ps 6, at0 ps 7] 4) W (valW_lt _ q1 4) (valW_lt _ q2 4)
        rw [halves ps hpw hpl, hpv, ← eq_numW _ q1 4 rfl, ← eq_numW _ q2 4 rfl] at h
        exact h
      have e0 := D.cell (k := 0) (by omega); have e1 := D.cell (k := 1) (by omega); have e2 := D.cell (k := 2) (by omega); have e3 := D.cell (k := 3) (by omega)
      have e4 := D.cell (k := 4) (by omega); have e5 := D.cell (k := 5) (by omega); have e6 := D.cell (k := 6) (by omega); have e7 := D.cell (k := 7) (by omega)
      clear hpv hpz
      have HRL := numW_length 4 ((valW xs 4 * valW ys 4) % pV)
      generalize hrr : numW 4 ((valW xs 4 * valW ys 4) % pV) = rr at *
      have HRR := Lib.hid hrr
      clear hrr
      go_wp2_with (first
        | (with_reducible refine at_n 71 ?_; refine wpList_buildI rfl 36 _ rfl .u64 [_, _, _, _] _ (built_num4 _ _ _ _) rfl ?_)
        | (with_reducible refine at_n 80 ?_; refine wpList_buildI rfl 36 _ rfl .u64 [_, _, _, _] _ (built_num4 _ _ _ _) rfl ?_)
        | (go_at_call 84; refine (FO _).mono ?_; rintro e w9 ⟨rfl, b9⟩; have R9 := R.below b9; have B9 := below_then hbel b9)
        | (with_reducible refine at_op (o := ⟨_, .store 36 _ _, _, _, _, _⟩) ?_; refine wpList_storeI rfl 36 _ _ rfl 4 info_num w2.heap.size rfl .u64 _ rr rfl R9 (by simp) HRL ?_; intro A9))
      refine bodyPost_ret (results_cellI rfl _ 4 34 und_num info_num w2.heap.size rfl .u64 _ A9 HRL) rfl ?_
      exact ⟨by rw [HRR.out], Below.setRow B9 (by omega) _⟩
end Go.Proofs.YtelppapkffjmpaaDoor
end
section
--@optional
namespace Go.Proofs.YtelppapkffjmpaaDoor
open Go.RowKit Go.Shelf
set_option linter.unusedVariables false
set_option maxRecDepth 8000

theorem ref_prod_v (u v : Int) (w : World) (hu : 0 ≤ u ∧ u < 2 ^ 256) (hv : 0 ≤ v ∧ v < 2 ^ 256) : Calls Tryd.prog 57 #[aggI .u64 (numW 4 u), aggI .u64 (numW 4 v)] w fun e w' => e = .returned (aggI .u64 (numW 4 ((u * v) % pV))) ∧ Below w.heap.size w w' := by
  have h := ref_prod_any (numW 4 u) (numW 4 v) w (numW_words _ _) (numW_words _ _) (numW_length _ _) (numW_length _ _)
  rw [numW_val hu.1 hu.2, numW_val hv.1 hv.2] at h
  exact h
end Go.Proofs.YtelppapkffjmpaaDoor
end
section
namespace Go.Proofs.YtelppapkffjmpaaDoor
open Go.RowKit Go.Shelf
set_option linter.unusedVariables false
set_option maxRecDepth 8000

theorem built_num1 (a : Int) : Tryd.prog.built 36 [(0, .int .u64 a)] = some (([a, 0, 0, 0] : List Int).map (Value.int .u64)).toArray := by kernel_rfl
theorem numW_one : numW 4 1 = [1, 0, 0, 0] := by decide +kernel
/-- A power, with so many of the exponent's bits still to come. -/
def takeZ (u v : Int) (m : Nat) : Int := u ^ (v / 2 ^ m).toNat % pV
theorem takeZ_ok (u v : Int) (m : Nat) : 0 ≤ takeZ u v m ∧ takeZ u v m < 2 ^ 256 := by
  have h := pV_mod (u ^ (v / 2 ^ m).toNat)
  have := pV_lt
  unfold takeZ
  omega
theorem takeZ_start (u v : Int) (hv : 0 ≤ v ∧ v < 2 ^ 256) : takeZ u v 256 = 1 := by
  unfold takeZ
  rw [Int.ediv_eq_zero_of_lt hv.1 hv.2, show Int.toNat 0 = 0 from rfl, Int.pow_zero]
  decide +kernel
theorem take_even (u v : Int) (j : Nat) (hv : 0 ≤ v) (h : v / 2 ^ j % 2 = 0) : (takeZ u v (j + 1) * takeZ u v (j + 1)) % pV = takeZ u v j := by
  have hh := half_val v j
  have hy : 0 ≤ v / 2 ^ (j + 1) := Int.ediv_nonneg hv (Int.le_of_lt (pow_pos2 _))
  have e : (v / 2 ^ j).toNat = 2 * (v / 2 ^ (j + 1)).toNat := by omega
  unfold takeZ
  rw [e, pow_step]
theorem take_odd (u v : Int) (j : Nat) (hv : 0 ≤ v) (h : v / 2 ^ j % 2 = 1) : ((takeZ u v (j + 1) * takeZ u v (j + 1)) % pV * u) % pV = takeZ u v j := by
  have hh := half_val v j
  have hy : 0 ≤ v / 2 ^ (j + 1) := Int.ediv_nonneg hv (Int.le_of_lt (pow_pos2 _))
  have e : (v / 2 ^ j).toNat = 2 * (v / 2 ^ (j + 1)).toNat + 1 := by omega
  unfold takeZ
  rw [e, pow_step, pow_step1 u u _ rfl]
theorem u64_and_one {x : Int} (h0 : 0 ≤ x) (h1 : x < 18446744073709551616) : bits BinOp.and IntKind.u64 x 1 = x % 2 := by
  have h := u64_and_mask x 1 1 rfl (by omega) h0 h1
  simpa using h

set_option maxHeartbeats 4000000 in
theorem ref_take_v (u v : Int) (w : World) (hu : 0 ≤ u ∧ u < 2 ^ 256) (hv : 0 ≤ v ∧ v < 2 ^ 256) :
    Calls Tryd.prog 86 #[aggI .u64 (numW 4 u), aggI .u64 (numW 4 v)] w fun e w' => e = .returned (aggI .u64 (numW 4 (u ^ v.toNat % pV))) ∧ Below w.heap.size w w' := by
  have hxl := numW_length 4 u
  have hnl := numW_length 4 v
  have hnw := numW_words 4 v
  have hst := takeZ_start u v hv
  have hbits : RowKit.Hid (∀ j, j < 256 → bitW (numW 4 v) j = v / 2 ^ j % 2) := Lib.hid fun j hj => by
    rw [bitW_val _ hnw 4 j (by omega), numW_val hv.1 hv.2]
  have hend : takeZ u v 0 = u ^ v.toNat % pV := by unfold takeZ; rw [Int.pow_zero, Int.ediv_one]
  rw [← hend]
  have HU : RowKit.Hid (0 ≤ u ∧ u < 2 ^ 256) := Lib.hid hu
  have HV : RowKit.Hid (0 ≤ v) := Lib.hid hv.1
  clear hend hu hv
  have hP := fun (a b : Int) (W : World) (ha : 0 ≤ a ∧ a < 2 ^ 256) (hb : 0 ≤ b ∧ b < 2 ^ 256) => ref_prod_v a b W ha hb
  generalize hns : numW 4 v = ns at *
  go_enter Tryd.func86, Tryd.ntmps86
  go_wp2_with (first
    | (with_reducible refine at_n 2 ?_; refine wpList_boxI rfl 36 _ rfl .u64 (numW 4 u) rfl ?_; intro w1 A1 s1 b1)
    | (with_reducible refine at_n 3 ?_; refine wpList_boxI rfl 36 _ rfl .u64 ns rfl ?_; intro w2 A2 s2 b2; have X2 := A1.below b2)
    | (with_reducible refine at_n 4 ?_; refine wpList_allocI rfl 36 rfl .u64 4 zero_num ?_; intro w3 A3 s3 b3; have X3 := X2.below b3; have N3 := A2.below b3)
    | (with_reducible refine at_n 7 ?_; refine wpList_buildI rfl 36 _ rfl .u64 [1, 0, 0, 0] _ (built_num1 _) rfl ?_)
    | (with_reducible refine at_n 5 ?_; refine wpList_newI rfl rfl 36 5 _ rfl rfl rfl rfl .u64 4 zero_num info_num (by simp [Act.put]) [1, 0, 0, 0] (by simp) (by simp [Act.eval, Act.put]) rfl ?_; intro w5 B5 h5 l5 D5 b5; have X5 := X3.below b5; have N5 := N3.below b5; have R5 := A3.below b5))
  have q1 : w2.heap.size < B5 := by omega
  go_loopw [6] (fun i wr => ∃ (m : Nat) (n : Int), m ≤ 256 ∧ n = (m : Int) - 1 ∧ i = .int .i64 n ∧ Arr .u64 wr w.heap.size (numW 4 u) ∧ Arr .u64 wr w1.heap.size ns ∧ Arr .u64 wr w2.heap.size (List.replicate 4 0) ∧ Arr .u64 wr B5 (numW 4 (takeZ u v m)) ∧ Below w.heap.size w wr) (fun i _ => (intOf i + 1).toNat)
  case atStart => exact ⟨256, 255, by omega, rfl, rfl, X5, N5, R5, by rw [hst, numW_one]; exact D5, below_then (below_then (below_then b1 b2) b3) b5⟩
  case round =>
    obtain ⟨m, n, hm, hn, rfl, X, NN, R, D, hbel⟩ := hrel
    cases m with
    | succ j =>
      obtain rfl : n = (j : Int) := by omega
      have hz := takeZ_ok u v (j + 1)
      have hz2 := pV_mod (takeZ u v (j + 1) * takeZ u v (j + 1))
      have hz3 := pV_lt
      have T1 := fun W => hP (takeZ u v (j + 1)) (takeZ u v (j + 1)) W hz hz
      have T2 := fun W => hP (takeZ u v (j + 1) * takeZ u v (j + 1) % pV) u W (by omega) HU.out
      have hev := Lib.hid (take_even u v j HV.out)
      have hod := Lib.hid (take_odd u v j HV.out)
      have hl1 := numW_length 4 (takeZ u v (j + 1))
      generalize takeZ u v (j + 1) = z1 at *
      have hl2 := numW_length 4 (z1 * z1 % pV)
      generalize z1 * z1 % pV = z2 at *
      have hl3 := numW_length 4 (z2 * u % pV)
      generalize z2 * u % pV = z3 at *
      clear hz hz2 hz3 hn
      have hj5 : j < 256 := by omega
      have hx64 := hnw.at (j / 64)
      have hbv := Lib.hid (hbits.out j hj5)
      have hs0 : 0 ≤ at0 ns (j / 64) / 2 ^ (j % 64) := Int.ediv_nonneg hx64.1 (Int.le_of_lt (pow_pos2 _))
      have hs1 : at0 ns (j / 64) / 2 ^ (j % 64) < 18446744073709551616 := by
        have := Int.ediv_le_self (2 ^ (j % 64)) hx64.1
        omega
      have hbit := u64_and_one hs0 hs1
      have hbd := bitW_bit ns j
      have HB : bitW ns j = bits BinOp.and IntKind.u64 (at0 ns (j / 64) / 2 ^ (j % 64)) 1 := hbit.symm
      rw [HB] at hbd
      have HB := Lib.hid HB
      clear hbit hs0 hs1
      have c0 := NN.cell (k := j / 64) (by omega)
      have e2 : (j : Int).tmod 64 = (j : Int) % 64 := rfl
      have e3 : (0 : Int) ≤ (j : Int) / 64 := by omega
      have e4 : (j : Int) / 64 < 4 := by omega
      have e8 : ((j : Int) / 64).toNat = j / 64 := by omega
      have e9 : ((j : Int) % 64).toNat = j % 64 := by omega
      have hm9 : (j : Int) < 256 := by omega
      have h01 : bits BinOp.and IntKind.u64 (at0 ns (j / 64) / 2 ^ (j % 64)) 1 = 0 ∨ bits BinOp.and IntKind.u64 (at0 ns (j / 64) / 2 ^ (j % 64)) 1 = 1 := by omega
      rcases h01 with h0 | h1
      · go_wp2_with (first
    | (with_reducible refine at_n 12 ?_; refine wpList_loadI rfl 36 _ rfl 4 34 und_num info_num (B5) rfl .u64 (numW 4 z1) (D) (hl1) ?_)
    | (with_reducible refine at_n 13 ?_; refine wpList_loadI rfl 36 _ rfl 4 34 und_num info_num (B5) rfl .u64 (numW 4 z1) (D) (hl1) ?_)
    | (go_at_call 57; (with_reducible refine (T1 _).mono ?_); rintro e wN ⟨rfl, bN⟩; replace X := X.below bN; replace NN := NN.below bN; replace R := R.below bN; replace D := D.below bN; replace hbel := below_then hbel bN)
    | (with_reducible refine at_op (o := ⟨_, .store 36 (.tmp 5) (.tmp 14), _, _, _, _⟩) ?_; refine wpList_storeI rfl 36 _ _ rfl 4 info_num (B5) rfl .u64 _ (numW 4 z2) rfl D (hl1) (hl2) ?_; replace X := X.rowOther (B' := B5) (by omega) ((numW 4 z2).map (Value.int .u64)).toArray; replace NN := NN.rowOther (B' := B5) (by omega) ((numW 4 z2).map (Value.int .u64)).toArray; replace R := R.rowOther (B' := B5) (by omega) ((numW 4 z2).map (Value.int .u64)).toArray; replace hbel := Below.setRow hbel (g := B5) (by omega) ((numW 4 z2).map (Value.int .u64)).toArray; clear D; intro D; have c0 := NN.cell (k := j / 64) (by omega)))
        have hs := hev.out (by rw [← hbv.out, HB.out, h0])
        exact ⟨⟨j, (j : Int) - 1, by omega, rfl, by go_num, X, NN, R, by rw [← hs]; exact D, hbel⟩, by simp only [intOf]; omega⟩
      · go_wp2_with (first
    | (with_reducible refine at_n 12 ?_; refine wpList_loadI rfl 36 _ rfl 4 34 und_num info_num (B5) rfl .u64 (numW 4 z1) (D) (hl1) ?_)
    | (with_reducible refine at_n 13 ?_; refine wpList_loadI rfl 36 _ rfl 4 34 und_num info_num (B5) rfl .u64 (numW 4 z1) (D) (hl1) ?_)
    | (with_reducible refine at_n 25 ?_; refine wpList_loadI rfl 36 _ rfl 4 34 und_num info_num (B5) rfl .u64 (numW 4 z2) (D) (hl2) ?_)
    | (with_reducible refine at_n 26 ?_; refine wpList_loadI rfl 36 _ rfl 4 34 und_num info_num (w.heap.size) rfl .u64 (numW 4 u) (X) (hxl) ?_)
    | (go_at_call 57; first | ((with_reducible refine (T1 _).mono ?_); rintro e wN ⟨rfl, bN⟩; replace X := X.below bN; replace NN := NN.below bN; replace R := R.below bN; replace D := D.below bN; replace hbel := below_then hbel bN) | ((with_reducible refine (T2 _).mono ?_); rintro e wN ⟨rfl, bN⟩; replace X := X.below bN; replace NN := NN.below bN; replace R := R.below bN; replace D := D.below bN; replace hbel := below_then hbel bN))
    | (with_reducible refine at_op (o := ⟨_, .store 36 (.tmp 5) (.tmp 14), _, _, _, _⟩) ?_; refine wpList_storeI rfl 36 _ _ rfl 4 info_num (B5) rfl .u64 _ (numW 4 z2) rfl D (hl1) (hl2) ?_; replace X := X.rowOther (B' := B5) (by omega) ((numW 4 z2).map (Value.int .u64)).toArray; replace NN := NN.rowOther (B' := B5) (by omega) ((numW 4 z2).map (Value.int .u64)).toArray; replace R := R.rowOther (B' := B5) (by omega) ((numW 4 z2).map (Value.int .u64)).toArray; replace hbel := Below.setRow hbel (g := B5) (by omega) ((numW 4 z2).map (Value.int .u64)).toArray; clear D; intro D; have c0 := NN.cell (k := j / 64) (by omega))
    | (with_reducible refine at_op (o := ⟨_, .store 36 (.tmp 5) (.tmp 27), _, _, _, _⟩) ?_; refine wpList_storeI rfl 36 _ _ rfl 4 info_num (B5) rfl .u64 _ (numW 4 z3) rfl D (hl2) (hl3) ?_; replace X := X.rowOther (B' := B5) (by omega) ((numW 4 z3).map (Value.int .u64)).toArray; replace NN := NN.rowOther (B' := B5) (by omega) ((numW 4 z3).map (Value.int .u64)).toArray; replace R := R.rowOther (B' := B5) (by omega) ((numW 4 z3).map (Value.int .u64)).toArray; replace hbel := Below.setRow hbel (g := B5) (by omega) ((numW 4 z3).map (Value.int .u64)).toArray; clear D; intro D; have c0 := NN.cell (k := j / 64) (by omega)))
        have hs := hod.out (by rw [← hbv.out, HB.out, h1])
        exact ⟨⟨j, (j : Int) - 1, by omega, rfl, by go_num, X, NN, R, by rw [← hs]; exact D, hbel⟩, by simp only [intOf]; omega⟩
    | zero =>
      obtain rfl : n = -1 := by omega
      clear hn hm hst hP hbits
      have hfl := numW_length 4 (takeZ u v 0)
      obtain ⟨rr, hr⟩ : ∃ rr, numW 4 (takeZ u v 0) = rr := ⟨_, rfl⟩
      rw [hr] at D hfl
      have HR := Lib.hid hr
      clear hr
      go_wp2_with (first
    | (with_reducible refine at_n 28 ?_; refine wpList_loadI rfl 36 _ rfl 4 34 und_num info_num (B5) rfl .u64 (rr) (D) (hfl) ?_)
    | (with_reducible refine at_op (o := ⟨_, .store 36 _ _, _, _, _, _⟩) ?_; refine wpList_storeI rfl 36 _ _ rfl 4 info_num (w2.heap.size) rfl .u64 _ (rr) rfl (R) (rfl) (hfl) ?_; intro A9))
      refine bodyPost_ret (results_cellI rfl _ 4 34 und_num info_num (w2.heap.size) rfl .u64 _ A9 (hfl)) rfl ?_
      exact ⟨by rw [HR.out], Below.setRow hbel (by omega) _⟩
end Go.Proofs.YtelppapkffjmpaaDoor
end
section
--@optional
namespace Go.Proofs.YtelppapkffjmpaaDoor
open Go.RowKit Go.Shelf
set_option linter.unusedVariables false
set_option maxRecDepth 8000

theorem numW_two : numW 4 2 = [2, 0, 0, 0] := by decide +kernel
theorem pV_two : 0 ≤ pV - 2 ∧ pV - 2 < 2 ^ 256 := by decide +kernel
set_option maxHeartbeats 2000000 in
theorem ref_invert_v (u : Int) (w : World) (hu : 0 ≤ u ∧ u < 2 ^ 256) :
    Calls Tryd.prog 61 #[aggI .u64 (numW 4 u)] w fun e w' => e = .returned (aggI .u64 (numW 4 (u ^ (pV - 2).toNat % pV))) ∧ Below w.heap.size w w' := by
  have MI := fun W => ref_minus_ge pV 2 W (by omega) (by decide +kernel) pV_lt.2
  have TA := fun W => ref_take_v u (pV - 2) W hu pV_two
  rw [numW_two] at MI
  have hl := numW_length 4 (u ^ (pV - 2).toNat % pV)
  have hl2 := numW_length 4 (pV - 2)
  generalize numW 4 (u ^ (pV - 2).toNat % pV) = rr at *
  generalize numW 4 (pV - 2) = pp at *
  go_enter Tryd.func61, Tryd.ntmps61
  go_wp2_with (first
    | (with_reducible refine at_n 1 ?_; refine wpList_boxI rfl 36 _ rfl .u64 (numW 4 u) rfl ?_; intro w1 A1 s1 b1)
    | (with_reducible refine at_n 2 ?_; refine wpList_allocI rfl 36 rfl .u64 4 zero_num ?_; intro w2 A2 s2 b2; have X2 := A1.below b2)
    | (go_at_call 56; refine (ref_P_v _).mono ?_; rintro e w3 ⟨rfl, b3⟩; have X3 := X2.below b3; have R3 := A2.below b3)
    | (with_reducible refine at_n 7 ?_; refine wpList_buildI rfl 36 _ rfl .u64 [2, 0, 0, 0] _ (built_num1 _) rfl ?_)
    | (go_at_call 65; refine (MI _).mono ?_; rintro e w4 ⟨rfl, b4⟩; have X4 := X3.below b4; have R4 := R3.below b4; have B4 := below_then (below_then (below_then b1 b2) b3) b4)
    | (with_reducible refine at_n 3 ?_; refine wpList_allocI rfl 36 rfl .u64 4 zero_num ?_; intro w5 A5 s5 b5; have X5 := X4.below b5; have R5 := R4.below b5; have B5 := below_then B4 b5; have k1 := X4.lt; have k2 := R4.lt; have k3 := B4.size)
    | (with_reducible refine at_op (o := ⟨_, .store 36 (.tmp 3) _, _, _, _, _⟩) ?_; refine wpList_storeI rfl 36 _ _ rfl 4 info_num (w4.heap.size) rfl .u64 _ (pp) rfl (A5) (rfl) (hl2) ?_; intro D6; have X6 := X5.rowOther (B' := w4.heap.size) (by omega) (pp.map (Value.int .u64)).toArray; have R6 := R5.rowOther (B' := w4.heap.size) (by omega) (pp.map (Value.int .u64)).toArray; have B6 := Below.setRow B5 (g := w4.heap.size) (by omega) (pp.map (Value.int .u64)).toArray)
    | (with_reducible refine at_n 11 ?_; refine wpList_loadI rfl 36 _ rfl 4 34 und_num info_num (w.heap.size) rfl .u64 (numW 4 u) (X6) (numW_length _ _) ?_)
    | (with_reducible refine at_n 12 ?_; refine wpList_loadI rfl 36 _ rfl 4 34 und_num info_num (w4.heap.size) rfl .u64 (pp) (D6) (hl2) ?_)
    | (go_at_call 86; refine (TA _).mono ?_; rintro e w7 ⟨rfl, b7⟩; have R7 := R6.below b7; have B7 := below_then B6 b7)
    | (with_reducible refine at_op (o := ⟨_, .store 36 (.tmp 2) _, _, _, _, _⟩) ?_; refine wpList_storeI rfl 36 _ _ rfl 4 info_num (w1.heap.size) rfl .u64 _ (rr) rfl (R7) (rfl) (hl) ?_; intro A9))
  refine bodyPost_ret (results_cellI rfl _ 4 34 und_num info_num (w1.heap.size) rfl .u64 _ A9 hl) rfl ?_
  exact ⟨rfl, Below.setRow B7 (by omega) _⟩
end Go.Proofs.YtelppapkffjmpaaDoor
end
