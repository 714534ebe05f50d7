/- The reference: Padded, Hex. -/
import Derived.Test.YtohnicmacmkapaaDoorShaE
import Derived.Test.YtohnicmacmkapaaDoorShaI
namespace Go.Proofs.YtohnicmacmkapaaDoor
open Go.RowKit
set_option linter.unusedVariables false
set_option maxRecDepth 8000

theorem ref_padded_v (n wd : Int) (w : World) (hn : -9223372036854775808 ≤ n ∧ n ≤ 9223372036854775807) (hw : -9223372036854775808 ≤ wd ∧ wd ≤ 9223372036854775807) :
    Calls Tryd.prog 15 #[.int .i64 n, .int .i64 wd] w fun e w' => e = .returned (.int .i64 (padded n wd)) ∧ w' = w := by
  by_cases h : n < 0 ∨ 1099511627776 < n ∨ (wd ≠ 32 ∧ wd ≠ 64)
  · rw [show padded n wd = 0 from if_pos h]
    by_cases h1 : n < 0
    · have d1 : decide (n < 0) = true := decide_eq_true h1
      go_enter Tryd.func15, Tryd.ntmps15
      go_wp2
      go_ret
      exact ⟨rfl, rfl⟩
    · by_cases h2 : 1099511627776 < n
      · go_enter Tryd.func15, Tryd.ntmps15
        go_wp2
        go_ret
        exact ⟨rfl, rfl⟩
      · have h3 : wd ≠ 32 ∧ wd ≠ 64 := by omega
        obtain ⟨h4, h5⟩ := h3
        have b4 : (wd != 32) = true := by simpa using h4
        have b5 : (wd != 64) = true := by simpa using h5
        clear h h4 h5
        go_enter Tryd.func15, Tryd.ntmps15
        go_wp2
        go_ret
        exact ⟨rfl, rfl⟩
  · have h6 : wd = 32 ∨ wd = 64 := by omega
    have h7 : ¬ n < 0 := by omega
    have h8 : ¬ 1099511627776 < n := by omega
    rw [show padded n wd = (n + 1 + wd / 4 + 2 * wd - 1) / (2 * wd) * (2 * wd) from if_neg h]
    clear h
    rcases h6 with rfl | rfl
    all_goals
      go_enter Tryd.func15, Tryd.ntmps15
      go_wp2
      go_ret
      exact ⟨rfl, rfl⟩
theorem run_cutK {P : Program} (K1 K2 : IntKind) (t : TypeId) (ht : P.underlying t = some .string) (L : ByteArray) (lo hi : Int) (h0 : 0 ≤ lo) (h1 : lo ≤ hi) (h2 : hi ≤ L.size) (w : World) :
    (Instr.sliceAt t (.string L) (some (.int K1 lo)) (some (.int K2 hi)) none).run P w = .ok (.string (L.extract lo.toNat hi.toNat)) w := by
  obtain ⟨a, rfl⟩ := Int.eq_ofNat_of_zero_le h0
  obtain ⟨b, rfl⟩ := Int.eq_ofNat_of_zero_le (Int.le_trans h0 h1)
  have e1 : a ≤ b := by omega
  have e2 : b ≤ L.size := by omega
  rw [run_sliceAt_string w t _ _ _ _ ht]
  simp [Instr.slice, run_underlying ht, Instr.sliceBounds, run_sliceBound, *]
theorem hex_cut {P : Program} (t : TypeId) (ht : P.underlying t = some .string) (d : Int) (h0 : 0 ≤ d) (h1 : d < 16) (w : World) :
    (Instr.sliceAt t (.string hexS) (some (.int .u8 d)) (some (.int .u8 (d + 1))) none).run P w = .ok (.string (strOfNums [at0 (sb hexS) d.toNat])) w := by
  have e3 : ∀ n : Nat, n < 16 → hexS.extract n (n + 1) = strOfNums [at0 (sb hexS) n] := by decide +kernel
  rw [run_cutK .u8 .u8 t ht hexS d (d + 1) h0 (by omega) (by show d + 1 ≤ (16 : Int); omega) w, show (d + 1).toNat = d.toNat + 1 by omega, e3 d.toNat (by omega)]
theorem wrap_u8J (x : Int) : IntKind.u8.wrap x = x % 256 := by simp [IntKind.wrap, IntKind.bits, IntKind.signed]
theorem strOfNums_app2 (a b : List Int) : strOfNums (a ++ b) = strOfNums a ++ strOfNums b := by
  apply ByteArray.ext
  simp [strOfNums, List.map_append]
theorem hex_step (zs : List Int) (k : Nat) (h : k < zs.length) : strOfNums (hexL (zs.take k)) ++ strOfNums [at0 (sb hexS) (at0 zs k / 16).toNat] ++ strOfNums [at0 (sb hexS) (at0 zs k % 16).toNat] = strOfNums (hexL (zs.take (k + 1))) := by
  rw [take_snoc zs k h, hexL_snoc, ← strOfNums_app2, ← strOfNums_app2]
  simp
theorem ref_hex_v (v : Value) (zs : List Int) (w : World) (hv : RdI .u8 w v zs) (hb : Bytes zs) (hlen : zs.length ≤ 1000000) :
    Calls Tryd.prog 17 #[v] w fun e w' => e = .returned (.string (strOfNums (hexL zs))) ∧ Below w.heap.size w w' := by
  obtain ⟨a, ca, rfl, hla, hma, ha, -⟩ := hv
  unfold maxLen at hma
  have HA := Lib.hid ha; clear ha
  go_enter Tryd.func17, Tryd.ntmps17
  go_wp2
  go_loopw [3, 4] (fun s i wr => ∃ k : Nat, k ≤ zs.length ∧ s = .string (strOfNums (hexL (zs.take k))) ∧ i = .int .i64 k ∧ Below w.heap.size w wr) (fun _ i _ => zs.length - (intOf i).toNat)
  case atStart => exact ⟨0, Nat.zero_le _, rfl, rfl, Below.refl _ _⟩
  case round =>
    obtain ⟨k, hk, rfl, rfl, hbel⟩ := hrel
    by_cases hlt : k < zs.length
    · obtain ⟨x, o, rfl, hc0⟩ := HA.out k hlt
      have hc := (hbel.cell (p := ⟨x, o + k, none⟩) (World.block_lt_of_cell? w _ hc0)).trans hc0
      clear hc0
      clear HA
      obtain ⟨c0, c1⟩ := hb.at k
      have hst := Lib.hid (hex_step zs k hlt)
      have hsz : (strOfNums (hexL (zs.take k))).size ≤ 2000000 := by rw [strOfNums_size, hexL_len, List.length_take]; omega
      generalize at0 zs k = c at *
      generalize strOfNums (hexL (zs.take k)) = S0 at *
      have d1 : c.tdiv 16 = c / 16 := Int.tdiv_eq_ediv_of_nonneg c0
      have d2 : c.tmod 16 = c % 16 := Int.tmod_eq_emod_of_nonneg c0
      have s1 := hex_cut (P := Tryd.prog) 9 Tryd.underlying9 (c / 16) (by omega) (by omega)
      have s2 := hex_cut (P := Tryd.prog) 9 Tryd.underlying9 (c % 16) (by omega) (by omega)
      have t1 : (strOfNums [at0 (sb hexS) (c / 16).toNat]).size = 1 := by rw [strOfNums_size]; rfl
      have t2 : (strOfNums [at0 (sb hexS) (c % 16).toNat]).size = 1 := by rw [strOfNums_size]; rfl
      generalize strOfNums [at0 (sb hexS) (c / 16).toNat] = g1 at *
      generalize strOfNums [at0 (sb hexS) (c % 16).toNat] = g2 at *
      have q1 : 0 ≤ c / 16 ∧ c / 16 < 16 := by omega
      have q2 : 0 ≤ c % 16 ∧ c % 16 < 16 := by omega
      generalize c / 16 = m1 at *
      generalize c % 16 = m2 at *
      have w1 : IntKind.u8.wrap (m1 + 1) = m1 + 1 := by rw [wrap_u8J]; omega
      have w2 : IntKind.u8.wrap (m2 + 1) = m2 + 1 := by rw [wrap_u8J]; omega
      unfold hexS at s1 s2
      go_wp2
      go_quiet (fail)
      go_wp2
      refine ⟨⟨k + 1, by omega, congrArg Value.string hst.out, by go_num, below_drewN hbel _⟩, by simp only [intOf]; omega⟩
    · obtain rfl : k = zs.length := by omega
      rw [List.take_length]
      clear HA
      go_wp2
      go_ret
      exact ⟨rfl, hbel⟩
end Go.Proofs.YtohnicmacmkapaaDoor
