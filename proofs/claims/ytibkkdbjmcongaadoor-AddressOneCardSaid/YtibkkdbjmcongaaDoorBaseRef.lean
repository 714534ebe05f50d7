/- Size of both packages; the reference's encode, bit by bit. -/
--@optional
import Derived.Test.YtibkkdbjmcongaaDoorBaseSpec
namespace Go.Proofs.YtibkkdbjmcongaaDoor
open Go.RowKit
set_option linter.unusedVariables false

theorem sizeI_no {n : Int} (h : n < 0 ∨ 1099511627776 < n) : sizeI n = 0 := by rw [sizeI, if_pos h]
theorem sizeI_yes {n : Int} (h0 : 0 ≤ n) (h1 : n ≤ 1099511627776) : sizeI n = (n * 8 + 5) / 6 := by rw [sizeI, if_neg (by omega)]
theorem size_any (n : Int) (w : World) : Calls Tryd.prog 51 #[.int .i64 n] w fun e w' => e = .returned (.int .i64 (sizeI n)) ∧ w' = w := by
  by_cases h0 : n < 0
  · have hs := Lib.hid (sizeI_no (.inl h0))
    go_enter Tryd.func51, Tryd.ntmps51
    go_wp2
    go_ret
    exact ⟨by rw [hs.out]; rfl, rfl⟩
  by_cases h1 : 1099511627776 < n
  · have hs := Lib.hid (sizeI_no (.inr h1))
    go_enter Tryd.func51, Tryd.ntmps51
    go_wp2
    go_ret
    exact ⟨by rw [hs.out]; rfl, rfl⟩
  · have hs := Lib.hid (sizeI_yes (by omega) (by omega : n ≤ 1099511627776))
    go_enter Tryd.func51, Tryd.ntmps51
    go_wp2
    go_ret
    exact ⟨by rw [hs.out]; rfl, rfl⟩
theorem ret_i64 {a b : Int} (h : a = b) : Ending.returned (.int .i64 a) = .returned (.int .i64 b) := by rw [h]
set_option maxHeartbeats 1000000 in
theorem ref_encode04_any (v : Value) (l : List Int) (L : ByteArray) (w : World) (h : RdI .u8 w v l) (hb : Bytes l) (hL : L.size = 64) (hlen : l.length ≤ 1000000) :
    Calls Tryd.prog 89 #[v, .string L] w fun e w' => e = .returned (.string (strL L (encL l))) ∧ w' = w := by
  obtain ⟨a, ca, rfl, hla, hma, ha, -⟩ := h
  unfold maxLen at hma
  have HA := Lib.hid ha; clear ha
  go_enter Tryd.func89, Tryd.ntmps89
  go_wp2
  go_loop [5, 6, 7, 8] (fun s n b i => ∃ k : Nat, k ≤ 8 * l.length ∧ s = .string (strL L (bst l k).1) ∧ n = .int .i64 (bst l k).2.1 ∧ b = .int .i64 ((bst l k).2.2 : Nat) ∧ i = .int .i64 k) (fun _ _ _ i => 8 * l.length - (intOf i).toNat)
  case atStart => exact ⟨0, Nat.zero_le _, rfl, rfl, rfl, rfl⟩
  case round =>
    obtain ⟨k, hk, rfl, rfl, rfl, rfl⟩ := hrel
    have hinv := bst_inv l k
    have hsm := hinv.small
    have hsz : (strL L (bst l k).1).size ≤ 8000000 := by rw [strL_size]; have := bst_len l k; omega
    obtain ⟨i1, i2, i3, i4⟩ := hinv
    by_cases hlt : k < 8 * l.length
    · obtain ⟨x, o, rfl, hc⟩ := HA.out (k / 8) (by omega)
      clear HA
      obtain ⟨c0, c1⟩ := hb.at (k / 8)
      obtain ⟨s0, s1⟩ := shr_le (at0 l (k / 8)) (7 - k % 8) c0 c1
      have hbt := and1 _ s0 s1
      rw [show at0 l (k / 8) / 2 ^ (7 - k % 8) % 2 = bitAt l k from rfl] at hbt
      obtain ⟨b0, b1⟩ := bitAt_01 l k
      have hstep : bst l (k + 1) = bstep (bst l k) (bitAt l k) := rfl
      generalize bitAt l k = bt at hbt b0 b1 hstep
      generalize bst l k = st at hstep i1 i2 i3 i4 hsm hsz
      obtain ⟨es, n, kb⟩ := st
      simp only at i1 i2 i3 i4 hsm hsz
      have HS := Lib.hid hstep; clear hstep i3 i4
      by_cases h6 : kb + 1 = 6
      · obtain rfl : kb = 5 := by omega
        clear h6
        have hsl := run_str_slice (P := Tryd.prog) 9 Tryd.underlying9 L (2 * n + bt) (2 * n + bt + 1) (by omega) (by omega) (by omega)
        go_wp2
        go_round
        case rel =>
          refine ⟨k + 1, by omega, ?_, by rw [HS.out]; rfl, by rw [HS.out]; rfl, by go_num⟩
          rw [HS.out]
          obtain ⟨m, hm⟩ := Int.eq_ofNat_of_zero_le (show 0 ≤ 2 * n + bt by omega)
          have h1 := strL_snoc L es m (by omega)
          show Value.string _ = Value.string (strL L (es ++ [2 * n + bt]))
          rw [hm, ← h1]
          congr 2
        case measure => simp [intOf]; omega
      · have h6' : ((kb : Int) + 1 == 6) = false := by rw [beq_eq_false_iff_ne]; omega
        go_wp2
        go_round
        case rel =>
          refine ⟨k + 1, by omega, ?_, ?_, ?_, by go_num⟩
          · rw [HS.out, bstep, if_neg h6]
          · rw [HS.out, bstep, if_neg h6]
          · rw [HS.out, bstep, if_neg h6]; go_num
        case measure => simp [intOf]; omega
    · obtain rfl : k = 8 * l.length := by omega
      clear HA
      have henc : encL l = if (bst l (8 * l.length)).2.2 = 0 then (bst l (8 * l.length)).1
        else (bst l (8 * l.length)).1 ++ [(bst l (8 * l.length)).2.1 * 2 ^ (6 - (bst l (8 * l.length)).2.2)] := rfl
      generalize bst l (8 * l.length) = st at henc i1 i2 i3 i4 hsm hsz
      obtain ⟨es, n, kb⟩ := st
      simp only at i1 i2 i3 i4 hsm hsz henc
      have HE := Lib.hid henc; clear henc
      have hk : kb = 0 ∨ kb = 1 ∨ kb = 2 ∨ kb = 3 ∨ kb = 4 ∨ kb = 5 := by omega
      rcases hk with rfl | rfl | rfl | rfl | rfl | rfl
      · go_wp2
        go_ret
        exact ⟨by rw [HE.out]; rfl, rfl⟩
      · have hsl := run_str_slice (P := Tryd.prog) 9 Tryd.underlying9 L (2 * (2 * (2 * (2 * (2 * n))))) (2 * (2 * (2 * (2 * (2 * n)))) + 1) (by omega) (by omega) (by omega)
        go_wp2
        go_rounds 6
        go_ret
        refine ⟨?_, rfl⟩
        rw [HE.out, if_neg (by omega)]
        obtain ⟨m, hm⟩ := Int.eq_ofNat_of_zero_le (show 0 ≤ 2 * (2 * (2 * (2 * (2 * n)))) by omega)
        have h1 := strL_snoc L es m (by omega)
        rw [show n * 2 ^ (6 - 1) = (m : Int) by rw [← hm]; omega, ← h1]
        show Ending.returned (Value.string _) = Ending.returned (Value.string _)
        rw [hm]
        congr 2
      · have hsl := run_str_slice (P := Tryd.prog) 9 Tryd.underlying9 L (2 * (2 * (2 * (2 * n)))) (2 * (2 * (2 * (2 * n))) + 1) (by omega) (by omega) (by omega)
        go_wp2
        go_rounds 5
        go_ret
        refine ⟨?_, rfl⟩
        rw [HE.out, if_neg (by omega)]
        obtain ⟨m, hm⟩ := Int.eq_ofNat_of_zero_le (show 0 ≤ 2 * (2 * (2 * (2 * n))) by omega)
        have h1 := strL_snoc L es m (by omega)
        rw [show n * 2 ^ (6 - 2) = (m : Int) by rw [← hm]; omega, ← h1]
        show Ending.returned (Value.string _) = Ending.returned (Value.string _)
        rw [hm]
        congr 2
      · have hsl := run_str_slice (P := Tryd.prog) 9 Tryd.underlying9 L (2 * (2 * (2 * n))) (2 * (2 * (2 * n)) + 1) (by omega) (by omega) (by omega)
        go_wp2
        go_rounds 4
        go_ret
        refine ⟨?_, rfl⟩
        rw [HE.out, if_neg (by omega)]
        obtain ⟨m, hm⟩ := Int.eq_ofNat_of_zero_le (show 0 ≤ 2 * (2 * (2 * n)) by omega)
        have h1 := strL_snoc L es m (by omega)
        rw [show n * 2 ^ (6 - 3) = (m : Int) by rw [← hm]; omega, ← h1]
        show Ending.returned (Value.string _) = Ending.returned (Value.string _)
        rw [hm]
        congr 2
      · have hsl := run_str_slice (P := Tryd.prog) 9 Tryd.underlying9 L (2 * (2 * n)) (2 * (2 * n) + 1) (by omega) (by omega) (by omega)
        go_wp2
        go_rounds 3
        go_ret
        refine ⟨?_, rfl⟩
        rw [HE.out, if_neg (by omega)]
        obtain ⟨m, hm⟩ := Int.eq_ofNat_of_zero_le (show 0 ≤ 2 * (2 * n) by omega)
        have h1 := strL_snoc L es m (by omega)
        rw [show n * 2 ^ (6 - 4) = (m : Int) by rw [← hm]; omega, ← h1]
        show Ending.returned (Value.string _) = Ending.returned (Value.string _)
        rw [hm]
        congr 2
      · have hsl := run_str_slice (P := Tryd.prog) 9 Tryd.underlying9 L (2 * n) (2 * n + 1) (by omega) (by omega) (by omega)
        go_wp2
        go_rounds 2
        go_ret
        refine ⟨?_, rfl⟩
        rw [HE.out, if_neg (by omega)]
        obtain ⟨m, hm⟩ := Int.eq_ofNat_of_zero_le (show 0 ≤ 2 * n by omega)
        have h1 := strL_snoc L es m (by omega)
        rw [show n * 2 ^ (6 - 5) = (m : Int) by rw [← hm]; omega, ← h1]
        show Ending.returned (Value.string _) = Ending.returned (Value.string _)
        rw [hm]
        congr 2
end Go.Proofs.YtibkkdbjmcongaaDoor
