/- The reference's fold, walked. -/
import Derived.Test.YtlhloldjlfcchaaDoorFP
namespace Go.Proofs.YtlhloldjlfcchaaDoor
open Go.RowKit Go.Shelf
set_option linter.unusedVariables false
set_option maxRecDepth 8000

theorem built_num1' (a : Int) : Tryd.prog.built 35 [(0, .int .u64 a)] = some (([a, 0, 0, 0] : List Int).map (Value.int .u64)).toArray := by kernel_rfl
theorem num1 (a : Int) (h0 : 0 ≤ a) (h1 : a < 18446744073709551616) : numW 4 a = [a, 0, 0, 0] := by
  symm
  refine numW_eq (fun x hx => by simp at hx; omega) rfl ?_
  simp [valW, at0]
set_option maxHeartbeats 1000000 in
theorem ref_fold_v (lo hi : Int) (w : World) (hlo : 0 ≤ lo ∧ lo < 2 ^ 256) (hhi : 0 ≤ hi ∧ hi < 2 ^ 256) :
    Calls Tryd.prog 54 #[aggI .u64 (numW 4 lo), aggI .u64 (numW 4 hi)] w fun e w' => e = .returned (aggI .u64 (numW 4 ((lo + hi * 2 ^ 256) % pV))) ∧ Below w.heap.size w w' := by
  obtain ⟨r, hr0⟩ : ∃ r, (lo + hi * 2 ^ 256) % pV = r := ⟨_, rfl⟩
  rw [hr0]
  obtain ⟨t, ht⟩ : ∃ t, t = 38 * hi % 2 ^ 256 := ⟨_, rfl⟩
  obtain ⟨c, hc⟩ : ∃ c, c = 38 * hi / 2 ^ 256 := ⟨_, rfl⟩
  obtain ⟨s, hs⟩ : ∃ s, s = (lo + t) % 2 ^ 256 := ⟨_, rfl⟩
  obtain ⟨k, hk⟩ : ∃ k, k = (lo + t) / 2 ^ 256 := ⟨_, rfl⟩
  obtain ⟨pB, hs2⟩ : ∃ pB, pB = (s + (c + k) * 38) % 2 ^ 256 := ⟨_, rfl⟩
  obtain ⟨k2, hk2⟩ : ∃ k2, k2 = (s + (c + k) * 38) / 2 ^ 256 := ⟨_, rfl⟩
  obtain ⟨pC, hs3⟩ : ∃ pC, pC = pB + k2 * 38 := ⟨_, rfl⟩
  obtain ⟨f0, f1, f2, f3, f4, f5, f6, f7, f8⟩ := fold_mod lo hi t c s k pB k2 pC hlo hhi ht hc hs hk hs2 hk2 hs3
  have hp256 : (100000 : Int) < 2 ^ 256 := by decide +kernel
  have t1 : 0 ≤ t ∧ t < 2 ^ 256 := by subst ht; exact ⟨Int.emod_nonneg _ (by omega), Int.emod_lt_of_pos _ (by omega)⟩
  have s1' : 0 ≤ s ∧ s < 2 ^ 256 := by subst hs; exact ⟨Int.emod_nonneg _ (by omega), Int.emod_lt_of_pos _ (by omega)⟩
  have pB' : 0 ≤ pB ∧ pB < 2 ^ 256 := by subst hs2; exact ⟨Int.emod_nonneg _ (by omega), Int.emod_lt_of_pos _ (by omega)⟩
  have PL1 := fun W => ref_plus_g lo t W hlo t1
  rw [← hs, ← hk] at PL1
  have PL2 : ∀ W d, d = (c + k) * 38 → Calls Tryd.prog 48 #[aggI .u64 (numW 4 s), aggI .u64 [d, 0, 0, 0]] W fun e w' => e = .returned (.tuple #[aggI .u64 (numW 4 pB), .int .u64 k2]) ∧ Below W.heap.size W w' := by
    intro W d hd
    have h := ref_plus_g s d W s1' ⟨by omega, by omega⟩
    rw [hd, ← hs2, ← hk2, num1 ((c + k) * 38) (by omega) (by omega)] at h
    rw [hd]
    exact h
  have CU := fun W => ref_cut_v pC W ⟨f1, f2⟩
  rw [f0, hr0] at CU
  have PL3 : k2 = 1 → ∀ W, Calls Tryd.prog 48 #[aggI .u64 (numW 4 pB), aggI .u64 [38, 0, 0, 0]] W fun e w' => e = .returned (.tuple #[aggI .u64 (numW 4 pC), .int .u64 0]) ∧ Below W.heap.size W w' := by
    intro h1 W
    have h := ref_plus_v pB 38 W pB'.1 (by omega) (by omega)
    rw [num1 38 (by omega) (by omega), show pB + 38 = pC by omega] at h
    exact h
  have HT := Lib.hid (m38_num hi hhi)
  rw [← ht, ← hc] at HT
  have h01 : k2 = 0 ∨ k2 = 1 := by omega
  have h30 : k2 = 0 → pC = pB := by omega
  clear hr0 hs hk hs2 hk2 hs3 f0 ht hc
  generalize hhs : numW 4 hi = hs at *
  have hW : Words hs := by rw [← hhs]; exact numW_words _ _
  have hl : hs.length = 4 := by rw [← hhs]; exact numW_length _ _
  clear hhs
  go_enter Tryd.func54, Tryd.ntmps54
  go_wp2_with (first
    | (with_reducible refine at_op (o := ⟨some 2, _, _, _, _, _⟩) ?_; refine wpList_boxI rfl 35 _ rfl .u64 (numW 4 lo) rfl ?_; intro w1 A1 s1 b1)
    | (with_reducible refine at_op (o := ⟨some 3, _, _, _, _, _⟩) ?_; refine wpList_boxI rfl 35 _ rfl .u64 hs rfl ?_; intro w2 A2 s2 b2; have X2 := A1.below b2)
    | (with_reducible refine at_op (o := ⟨some 4, _, _, _, _, _⟩) ?_; refine wpList_allocI rfl 35 rfl .u64 4 zero_num ?_; intro w3 A3 s3 b3; have X3 := X2.below b3; have Y3 := A2.below b3)
    | (with_reducible refine at_op (o := ⟨some 5, _, _, _, _, _⟩) ?_; refine wpList_allocI rfl 35 rfl .u64 4 zero_num ?_; intro w4 A4 s4 b4; have X4 := X3.below b4; have Y4 := Y3.below b4; have R4 := A3.below b4))
  go_loopw [6, 7] (fun cc i wr => ∃ (j : Nat) (ds : List Int), j ≤ 4 ∧ i = .int .i64 j ∧ cc = .int .u64 (m38C hs j) ∧ Arr .u64 wr w.heap.size (numW 4 lo) ∧ Arr .u64 wr w1.heap.size hs ∧ Arr .u64 wr w2.heap.size (List.replicate 4 0) ∧ Arr .u64 wr w3.heap.size ds ∧ ds.length = 4 ∧ (∀ n, n < j → at0 ds n = m38W hs n) ∧ Below w.heap.size w wr) (fun _ i _ => 4 - (intOf i).toNat)
  case atStart => exact ⟨0, _, by omega, rfl, rfl, X4, Y4, R4, A4, by simp, fun n hn => by omega, below_then (below_then (below_then b1 b2) b3) b4⟩
  case round =>
    obtain ⟨j, ds, hj, rfl, rfl, A, BY, RR, DD, hd, hv, BB⟩ := hrel
    by_cases hlt : j < 4
    · have c1 := BY.cell (k := j) (by omega)
      have c2 := DD.cell (k := j) (by omega)
      have fr := DD.free (k := j) (by omega)
      have hx := hW.at j
      have hcl := m38C_lt hs hW j
      have hnext : m38C hs (j + 1) = (at0 hs j * 38 + m38C hs j) / 18446744073709551616 := rfl
      have hval : m38W hs j = (at0 hs j * 38 + m38C hs j) % 18446744073709551616 := rfl
      have hM := mul64_int (at0 hs j) 38 ⟨hx.1, by omega⟩ (by omega)
      obtain ⟨hh, e1⟩ : ∃ hh, hh = at0 hs j * 38 / 18446744073709551616 := ⟨_, rfl⟩
      obtain ⟨ll, e2⟩ : ∃ ll, ll = at0 hs j * 38 % 18446744073709551616 := ⟨_, rfl⟩
      rw [← e1, ← e2] at hM
      have hA := add64_run ll (m38C hs j) 0 (by omega) (by omega) (by omega) (by omega)
      obtain ⟨ss, e3⟩ : ∃ ss, ss = (ll + m38C hs j + 0) % 18446744073709551616 := ⟨_, rfl⟩
      obtain ⟨kk, e4⟩ : ∃ kk, kk = (ll + m38C hs j + 0) / 18446744073709551616 := ⟨_, rfl⟩
      rw [← e3, ← e4] at hA
      have hsv : m38W hs j = ss := by omega
      have hcv : m38C hs (j + 1) = hh + kk := by omega
      have hh1 : 0 ≤ hh ∧ hh < 38 := by omega
      have kk1 : 0 ≤ kk ∧ kk ≤ 1 := by omega
      have hsb : 0 ≤ ss ∧ ss < 18446744073709551616 := by omega
      clear hval hnext e1 e2 e3 e4
      have HV := Lib.hid hv
      have HS := Lib.hid hsv
      have HC := Lib.hid hcv
      clear hv hsv hcv
      go_wp2_with (first
    | (go_at_call 52; refine (hM _).mono ?_; rintro e w' ⟨rfl, rfl⟩))

      refine ⟨⟨j + 1, ds.set j ss, by omega, by go_num, by rw [HC.out], A.setOther (by omega) _ _, BY.setOther (by omega) _ _, RR.setOther (by omega) _ _, DD.set _ _, by simp [hd], fun n hn => ?_, BB.setCell (by show w.heap.size ≤ w3.heap.size; omega) _⟩, by simp [intOf]; omega⟩
      rw [at0_set ds j n _ (by omega)]
      by_cases e : n = j
      · rw [if_pos e, e]; exact HS.out.symm
      · rw [if_neg e]; exact HV.out n (by omega)
    · obtain rfl : j = 4 := by omega
      have hys : ds = numW 4 t := by
        rw [← HT.out.1]
        apply eq_of_all (by simp [m38S, hd])
        intro n h
        rw [hv n (by omega)]
        simp [m38S, at0, show n < 4 by omega]
      subst hys
      rw [HT.out.2]
      clear hv
      rcases h01 with rfl | rfl
      · rw [h30 rfl] at CU
        clear PL3 h30
        go_wp2_with (first
            | (with_reducible refine at_op (o := ⟨some 38, _, _, _, _, _⟩) ?_; refine wpList_loadI rfl 35 _ rfl 4 33 und_num info_num (w.heap.size) rfl .u64 (numW 4 lo) (A) (numW_length _ _) ?_)
            | (with_reducible refine at_op (o := ⟨some 39, _, _, _, _, _⟩) ?_; refine wpList_loadI rfl 35 _ rfl 4 33 und_num info_num (w3.heap.size) rfl .u64 (numW 4 t) (DD) (numW_length _ _) ?_)
            | (go_at_call 48; first | ((with_reducible refine (PL1 _).mono ?_); rintro e w5 ⟨rfl, b5⟩; replace RR := RR.below b5; replace BB := below_then BB b5; have z5 := BB.size; have y5 := RR.lt) | ((with_reducible refine (PL2 _ _ (by omega)).mono ?_); rintro e w7 ⟨rfl, b7⟩; have S7 := S6.below b7; replace RR := RR.below b7; replace BB := below_then BB b7))
            | (with_reducible refine at_op (o := ⟨some 12, _, _, _, _, _⟩) ?_; refine wpList_allocI rfl 35 rfl .u64 4 zero_num ?_; intro w6 A6 s6 b6; replace RR := RR.below b6; replace BB := below_then BB b6)
            | (with_reducible refine at_op (o := ⟨_, .store 35 (.tmp 12) (.tmp 41), _, _, _, _⟩) ?_; refine wpList_storeI rfl 35 _ _ rfl 4 info_num (w5.heap.size) rfl .u64 _ (numW 4 s) rfl (A6) (rfl) (numW_length _ _) ?_; intro S6; have R9 := RR.rowOther (B' := w5.heap.size) (by omega) ((numW 4 s).map (Value.int .u64)).toArray; have B9 := Below.setRow BB (g := w5.heap.size) (by omega) ((numW 4 s).map (Value.int .u64)).toArray; replace RR := R9; replace BB := B9)
            | (with_reducible refine at_op (o := ⟨some 44, _, _, _, _, _⟩) ?_; refine wpList_loadI rfl 35 _ rfl 4 33 und_num info_num (w5.heap.size) rfl .u64 (numW 4 s) (S6) (numW_length _ _) ?_)
            | (with_reducible refine at_op (o := ⟨some 49, _, _, _, _, _⟩) ?_; refine wpList_buildI rfl 35 _ rfl .u64 [_, 0, 0, 0] _ (built_num1' _) rfl ?_)
            | (with_reducible refine at_op (o := ⟨_, .store 35 (.tmp 12) (.tmp 51), _, _, _, _⟩) ?_; refine wpList_storeI rfl 35 _ _ rfl 4 info_num (w5.heap.size) rfl .u64 _ (numW 4 pB) rfl (S7) (numW_length _ _) (numW_length _ _) ?_; intro S8; have R9 := RR.rowOther (B' := w5.heap.size) (by omega) ((numW 4 pB).map (Value.int .u64)).toArray; have B9 := Below.setRow BB (g := w5.heap.size) (by omega) ((numW 4 pB).map (Value.int .u64)).toArray; replace RR := R9; replace BB := B9)
            | (with_reducible refine at_op (o := ⟨some 61, _, _, _, _, _⟩) ?_; refine wpList_loadI rfl 35 _ rfl 4 33 und_num info_num (w5.heap.size) rfl .u64 (numW 4 pB) (S8) (numW_length _ _) ?_)
            | (go_at_call 33; refine (CU _).mono ?_; rintro e w10 ⟨rfl, b10⟩; replace RR := RR.below b10; replace BB := below_then BB b10)
            | (with_reducible refine at_op (o := ⟨_, .store 35 (.tmp 4) _, _, _, _, _⟩) ?_; refine wpList_storeI rfl 35 _ _ rfl 4 info_num (w2.heap.size) rfl .u64 _ (numW 4 r) rfl (RR) (rfl) (numW_length _ _) ?_; intro A9))
        refine bodyPost_ret (results_cellI rfl _ 4 33 und_num info_num (w2.heap.size) rfl .u64 _ A9 (numW_length _ _)) rfl ?_
        exact ⟨rfl, Below.setRow BB (by omega) _⟩
      · replace PL3 := PL3 rfl
        clear h30
        go_wp2_with (first
            | (with_reducible refine at_op (o := ⟨some 38, _, _, _, _, _⟩) ?_; refine wpList_loadI rfl 35 _ rfl 4 33 und_num info_num (w.heap.size) rfl .u64 (numW 4 lo) (A) (numW_length _ _) ?_)
            | (with_reducible refine at_op (o := ⟨some 39, _, _, _, _, _⟩) ?_; refine wpList_loadI rfl 35 _ rfl 4 33 und_num info_num (w3.heap.size) rfl .u64 (numW 4 t) (DD) (numW_length _ _) ?_)
            | (go_at_call 48; first | ((with_reducible refine (PL1 _).mono ?_); rintro e w5 ⟨rfl, b5⟩; replace RR := RR.below b5; replace BB := below_then BB b5; have z5 := BB.size; have y5 := RR.lt) | ((with_reducible refine (PL2 _ _ (by omega)).mono ?_); rintro e w7 ⟨rfl, b7⟩; have S7 := S6.below b7; replace RR := RR.below b7; replace BB := below_then BB b7) | ((with_reducible refine (PL3 _).mono ?_); rintro e w8 ⟨rfl, b8⟩; have S9 := S8.below b8; replace RR := RR.below b8; replace BB := below_then BB b8))
            | (with_reducible refine at_op (o := ⟨some 12, _, _, _, _, _⟩) ?_; refine wpList_allocI rfl 35 rfl .u64 4 zero_num ?_; intro w6 A6 s6 b6; replace RR := RR.below b6; replace BB := below_then BB b6)
            | (with_reducible refine at_op (o := ⟨_, .store 35 (.tmp 12) (.tmp 41), _, _, _, _⟩) ?_; refine wpList_storeI rfl 35 _ _ rfl 4 info_num (w5.heap.size) rfl .u64 _ (numW 4 s) rfl (A6) (rfl) (numW_length _ _) ?_; intro S6; have R9 := RR.rowOther (B' := w5.heap.size) (by omega) ((numW 4 s).map (Value.int .u64)).toArray; have B9 := Below.setRow BB (g := w5.heap.size) (by omega) ((numW 4 s).map (Value.int .u64)).toArray; replace RR := R9; replace BB := B9)
            | (with_reducible refine at_op (o := ⟨some 44, _, _, _, _, _⟩) ?_; refine wpList_loadI rfl 35 _ rfl 4 33 und_num info_num (w5.heap.size) rfl .u64 (numW 4 s) (S6) (numW_length _ _) ?_)
            | (with_reducible refine at_op (o := ⟨some 49, _, _, _, _, _⟩) ?_; refine wpList_buildI rfl 35 _ rfl .u64 [_, 0, 0, 0] _ (built_num1' _) rfl ?_)
            | (with_reducible refine at_op (o := ⟨_, .store 35 (.tmp 12) (.tmp 51), _, _, _, _⟩) ?_; refine wpList_storeI rfl 35 _ _ rfl 4 info_num (w5.heap.size) rfl .u64 _ (numW 4 pB) rfl (S7) (numW_length _ _) (numW_length _ _) ?_; intro S8; have R9 := RR.rowOther (B' := w5.heap.size) (by omega) ((numW 4 pB).map (Value.int .u64)).toArray; have B9 := Below.setRow BB (g := w5.heap.size) (by omega) ((numW 4 pB).map (Value.int .u64)).toArray; replace RR := R9; replace BB := B9)
            | (with_reducible refine at_op (o := ⟨some 56, _, _, _, _, _⟩) ?_; refine wpList_loadI rfl 35 _ rfl 4 33 und_num info_num (w5.heap.size) rfl .u64 (numW 4 pB) (S8) (numW_length _ _) ?_)
            | (with_reducible refine at_op (o := ⟨some 57, _, _, _, _, _⟩) ?_; refine wpList_buildI rfl 35 _ rfl .u64 [_, 0, 0, 0] _ (built_num1' _) rfl ?_)
            | (with_reducible refine at_op (o := ⟨_, .store 35 (.tmp 12) (.tmp 59), _, _, _, _⟩) ?_; refine wpList_storeI rfl 35 _ _ rfl 4 info_num (w5.heap.size) rfl .u64 _ (numW 4 pC) rfl (S9) (numW_length _ _) (numW_length _ _) ?_; intro SA; have R9 := RR.rowOther (B' := w5.heap.size) (by omega) ((numW 4 pC).map (Value.int .u64)).toArray; have B9 := Below.setRow BB (g := w5.heap.size) (by omega) ((numW 4 pC).map (Value.int .u64)).toArray; replace RR := R9; replace BB := B9)
            | (with_reducible refine at_op (o := ⟨some 61, _, _, _, _, _⟩) ?_; refine wpList_loadI rfl 35 _ rfl 4 33 und_num info_num (w5.heap.size) rfl .u64 (numW 4 pC) (SA) (numW_length _ _) ?_)
            | (go_at_call 33; refine (CU _).mono ?_; rintro e w10 ⟨rfl, b10⟩; replace RR := RR.below b10; replace BB := below_then BB b10)
            | (with_reducible refine at_op (o := ⟨_, .store 35 (.tmp 4) _, _, _, _, _⟩) ?_; refine wpList_storeI rfl 35 _ _ rfl 4 info_num (w2.heap.size) rfl .u64 _ (numW 4 r) rfl (RR) (rfl) (numW_length _ _) ?_; intro A9))
        refine bodyPost_ret (results_cellI rfl _ 4 33 und_num info_num (w2.heap.size) rfl .u64 _ A9 (numW_length _ _)) rfl ?_
        exact ⟨rfl, Below.setRow BB (by omega) _⟩
end Go.Proofs.YtlhloldjlfcchaaDoor
