/- Layer 6 (address): the reference's local parts. -/
import Derived.Test.YtibkkdbjmcongaaDoorAddrRefD
namespace Go.Proofs.YtibkkdbjmcongaaDoor
open Go.RowKit
set_option linter.unusedVariables false

theorem idx_sgl (n : Nat) (h : n < 19) (w : World) :
    (Instr.index 9 (.string ⟨#[33, 35, 36, 37, 38, 39, 42, 43, 47, 61, 63, 94, 95, 96, 123, 124, 125, 126, 45]⟩) (.int .i64 (n : Int))).run Tryd.prog w = .ok (.int .u8 (at0 sgl n)) w := by
  have hk : n < (⟨#[33, 35, 36, 37, 38, 39, 42, 43, 47, 61, 63, 94, 95, 96, 123, 124, 125, 126, 45]⟩ : ByteArray).size := h
  rw [sgl, at0_sb _ n hk]
  simp [Instr.index, run_underlying Tryd.underlying9, asIntOf, hk]
theorem lok_alnum {l : List Int} {k : Nat} (h : alnI (at0 l k) = true) (hne : at0 l k ≠ 46) : lokB l k = true := by rw [lokB, if_neg hne, h]; rfl
theorem lok_sign {l : List Int} {k : Nat} {b : Bool} (h : alnI (at0 l k) = false) (hne : at0 l k ≠ 46) (hs : sgsI (at0 l k) = b) : lokB l k = b := by rw [lokB, if_neg hne, h, hs]; rfl
set_option maxHeartbeats 4000000 in
theorem ref_local_any (s : ByteArray) (w : World) (hs : s.size ≤ maxLen) :
    Calls Tryd.prog 58 #[.string s] w fun e w' => e = .returned (.bool (localL (sb s))) ∧ w = w' := by
  unfold maxLen at hs
  have hl := sb_length s
  by_cases g1 : (s.size : Int) < 1
  · have HF := Lib.hid (show localL (sb s) = false by rw [localL, made_no _ _ _ (by omega)]; rfl)
    clear hl
    go_enter Tryd.func58, Tryd.ntmps58
    go_wp2
    go_ret
    exact ⟨by rw [HF.out]; rfl, rfl⟩
  by_cases g2 : (64 : Int) < (s.size : Int)
  · have HF := Lib.hid (show localL (sb s) = false by rw [localL, made_no _ _ _ (by omega)]; rfl)
    clear hl
    go_enter Tryd.func58, Tryd.ntmps58
    go_wp2
    go_ret
    exact ⟨by rw [HF.out]; rfl, rfl⟩
  have HI := Lib.hid (local_iff (sb s) (by omega) (by omega))
  have HL := Lib.hid hl; clear hl
  go_enter Tryd.func58, Tryd.ntmps58
  go_wp2
  have hsg1 : sb (⟨#[33, 35, 36, 37, 38, 39, 42, 43, 47, 61, 63, 94, 95, 96, 123, 124, 125, 126, 45]⟩ : ByteArray) = sgl := rfl
  have hsg2 : ((⟨#[33, 35, 36, 37, 38, 39, 42, 43, 47, 61, 63, 94, 95, 96, 123, 124, 125, 126, 45]⟩ : ByteArray)).size = 19 := rfl
  generalize (⟨#[33, 35, 36, 37, 38, 39, 42, 43, 47, 61, 63, 94, 95, 96, 123, 124, 125, 126, 45]⟩ : ByteArray) = SG at *
  have HG1 := Lib.hid hsg1
  have HG2 := Lib.hid hsg2
  have hsgl : SG.size ≤ 19 := by omega
  clear hsg1 hsg2
  go_loop [4, 5, 6, 7] (fun i _ _ _ => ∃ k : Nat, k ≤ s.size ∧ i = .int .i64 k ∧ ∀ j, j < k → lokB (sb s) j = true) (fun i _ _ _ => s.size - (intOf i).toNat)
  case atStart => exact ⟨0, Nat.zero_le _, rfl, fun j h => by omega⟩
  case round =>
    obtain ⟨k, hk, rfl, hall⟩ := hrel
    have H := Lib.hid hall; clear hall
    by_cases hlt : k < s.size
    · have hlk : k < (sb s).length := by have := HL.out; omega
      have hat := at0_sb s k hlt
      have HA := Lib.hid hat; clear hat
      have c0 := (s[k]'hlt).toNat_lt
      have hA := HA.out
      generalize hcc : ((s[k]'hlt).toNat : Int) = c at *
      have hc0 : 0 ≤ c := by omega
      have hc255 : c ≤ 255 := by omega
      by_cases h46 : c = 46
      · have hA46 : at0 (sb s) k = 46 := by rw [hA, h46]
        have hlokd : lokB (sb s) k = (decide (0 < k) && (decide (k + 1 < (sb s).length) && !(at0 (sb s) (k - 1) == 46))) := by rw [lokB, if_pos hA46]
        have HLD := Lib.hid hlokd
        have hc46 : (c == 46) = true := by rw [h46]; rfl
        have hclt : c < 48 := by omega
        have HC := Lib.hid h46
        clear h46 hA hA46 hlokd
        by_cases q0 : k = 0
        · have hk0 : ¬ 0 < k := by omega
          have Q := Lib.hid q0; clear q0
          have HK := Lib.hid (show lokB (sb s) k = false by rw [HLD.out, Q.out]; rfl)
          go_wp2
          go_loop [6, 7] (fun ok j => ∃ n : Nat, n ≤ SG.size ∧ j = .int .i64 n ∧ ok = .bool ((sgl.take n).any (· == c))) (fun _ j => SG.size - (intOf j).toNat)
          case atStart => exact ⟨0, Nat.zero_le _, rfl, rfl⟩
          case round =>
            obtain ⟨n, hn, rfl, rfl⟩ := hrel
            by_cases hn2 : n < SG.size
            · have hsu := sgl_succ c n (by omega)
              have hix := at0_sb SG n hn2
              rw [HG1.out] at hix
              rw [hix] at hsu
              have HSU := Lib.hid hsu; clear hsu hix
              generalize hq : (sgl.take n).any (· == c) = q at *
              have HQ := Lib.hid hq; clear hq
              cases q
              · go_wp2
                exact ⟨⟨n + 1, by omega, by go_num, by rw [HSU.out]; rfl⟩, by simp [intOf]; omega⟩
              · go_wp2
                exact ⟨⟨n + 1, by omega, by go_num, by rw [HSU.out]; rfl⟩, by simp [intOf]; omega⟩
            · obtain rfl : n = SG.size := by omega
              clear hn hn2
              go_wp2
              go_ret
              refine ⟨?_, rfl⟩
              have : localL (sb s) = false := by
                cases h : localL (sb s)
                · rfl
                · have := HI.out.1 h k hlk; rw [HK.out] at this; cases this
              rw [this]; rfl
        by_cases q1 : k + 1 = s.size
        · have hk0 : 0 < k := by omega
          have hk1 : ¬ (k : Int) < (s.size : Int) - 1 := by omega
          have HK := Lib.hid (show lokB (sb s) k = false by rw [HLD.out, decide_eq_false (show ¬ k + 1 < (sb s).length by have := HL.out; omega)]; simp)
          go_wp2
          go_loop [6, 7] (fun ok j => ∃ n : Nat, n ≤ SG.size ∧ j = .int .i64 n ∧ ok = .bool ((sgl.take n).any (· == c))) (fun _ j => SG.size - (intOf j).toNat)
          case atStart => exact ⟨0, Nat.zero_le _, rfl, rfl⟩
          case round =>
            obtain ⟨n, hn, rfl, rfl⟩ := hrel
            by_cases hn2 : n < SG.size
            · have hsu := sgl_succ c n (by omega)
              have hix := at0_sb SG n hn2
              rw [HG1.out] at hix
              rw [hix] at hsu
              have HSU := Lib.hid hsu; clear hsu hix
              generalize hq : (sgl.take n).any (· == c) = q at *
              have HQ := Lib.hid hq; clear hq
              cases q
              · go_wp2
                exact ⟨⟨n + 1, by omega, by go_num, by rw [HSU.out]; rfl⟩, by simp [intOf]; omega⟩
              · go_wp2
                exact ⟨⟨n + 1, by omega, by go_num, by rw [HSU.out]; rfl⟩, by simp [intOf]; omega⟩
            · obtain rfl : n = SG.size := by omega
              clear hn hn2
              go_wp2
              go_ret
              refine ⟨?_, rfl⟩
              have : localL (sb s) = false := by
                cases h : localL (sb s)
                · rfl
                · have := HI.out.1 h k hlk; rw [HK.out] at this; cases this
              rw [this]; rfl
        have hp := at0_sb s (k - 1) (by omega)
        have HP := Lib.hid hp; clear hp
        have hk0 : 0 < k := by omega
        have hk1 : (k : Int) < (s.size : Int) - 1 := by omega
        have hi1 : (1 : Int) ≤ k := by omega
        have hi2 : (k : Int) - 1 < s.size := by omega
        have hi3 : ((k : Int) - 1).toNat = k - 1 := by omega
        by_cases q2 : at0 (sb s) (k - 1) = 46
        · have hb9 : (((s[k - 1]'(by omega)).toNat : Int) != 46) = false := by rw [← HP.out, q2]; rfl
          have Q2 := Lib.hid q2
          have HK := Lib.hid (show lokB (sb s) k = false by rw [HLD.out, Q2.out]; simp)
          go_wp2
          go_loop [6, 7] (fun ok j => ∃ n : Nat, n ≤ SG.size ∧ j = .int .i64 n ∧ ok = .bool ((sgl.take n).any (· == c))) (fun _ j => SG.size - (intOf j).toNat)
          case atStart => exact ⟨0, Nat.zero_le _, rfl, rfl⟩
          case round =>
            obtain ⟨n, hn, rfl, rfl⟩ := hrel
            by_cases hn2 : n < SG.size
            · have hsu := sgl_succ c n (by omega)
              have hix := at0_sb SG n hn2
              rw [HG1.out] at hix
              rw [hix] at hsu
              have HSU := Lib.hid hsu; clear hsu hix
              generalize hq : (sgl.take n).any (· == c) = q at *
              have HQ := Lib.hid hq; clear hq
              cases q
              · go_wp2
                exact ⟨⟨n + 1, by omega, by go_num, by rw [HSU.out]; rfl⟩, by simp [intOf]; omega⟩
              · go_wp2
                exact ⟨⟨n + 1, by omega, by go_num, by rw [HSU.out]; rfl⟩, by simp [intOf]; omega⟩
            · obtain rfl : n = SG.size := by omega
              clear hn hn2
              go_wp2
              go_ret
              refine ⟨?_, rfl⟩
              have : localL (sb s) = false := by
                cases h : localL (sb s)
                · rfl
                · have := HI.out.1 h k hlk; rw [HK.out] at this; cases this
              rw [this]; rfl
        · have hb9 : (((s[k - 1]'(by omega)).toNat : Int) != 46) = true := by rw [← HP.out, bne_iff_ne]; exact q2
          have Q2 := Lib.hid q2
          have HK := Lib.hid (show lokB (sb s) k = true by have hl9 := HL.out; rw [HLD.out, decide_eq_true (show 0 < k by omega), decide_eq_true (show k + 1 < (sb s).length by omega), beq_eq_false_iff_ne.2 Q2.out]; rfl)
          go_wp2
          go_loop [6, 7] (fun ok j => ∃ n : Nat, n ≤ SG.size ∧ j = .int .i64 n ∧ ok = .bool ((sgl.take n).any (· == c))) (fun _ j => SG.size - (intOf j).toNat)
          case atStart => exact ⟨0, Nat.zero_le _, rfl, rfl⟩
          case round =>
            obtain ⟨n, hn, rfl, rfl⟩ := hrel
            by_cases hn2 : n < SG.size
            · have hsu := sgl_succ c n (by omega)
              have hix := at0_sb SG n hn2
              rw [HG1.out] at hix
              rw [hix] at hsu
              have HSU := Lib.hid hsu; clear hsu hix
              generalize hq : (sgl.take n).any (· == c) = q at *
              have HQ := Lib.hid hq; clear hq
              cases q
              · go_wp2
                exact ⟨⟨n + 1, by omega, by go_num, by rw [HSU.out]; rfl⟩, by simp [intOf]; omega⟩
              · go_wp2
                exact ⟨⟨n + 1, by omega, by go_num, by rw [HSU.out]; rfl⟩, by simp [intOf]; omega⟩
            · obtain rfl : n = SG.size := by omega
              clear hn hn2
              go_wp2
              refine ⟨⟨k + 1, by omega, by go_num, fun j hj => ?_⟩, by simp [intOf]; omega⟩
              rcases Nat.lt_or_ge j k with h | h
              · exact H.out j h
              · obtain rfl : j = k := by omega
                exact HK.out
      have hc46 : (c == 46) = false := beq_eq_false_iff_ne.2 h46
      have hAne : at0 (sb s) k ≠ 46 := by rw [hA]; exact h46
      by_cases r48 : 48 ≤ c ∧ c ≤ 57
      · obtain ⟨ra, rb⟩ := r48
        have HK := Lib.hid (lok_alnum (show alnI (at0 (sb s) k) = true by rw [hA]; simp only [alnI, smlI, grtI, digI, Bool.or_eq_true, Bool.and_eq_true, decide_eq_true_eq]; omega) hAne)
        clear h46 hA hAne
        go_wp2
        go_loop [6, 7] (fun ok j => ∃ n : Nat, n ≤ SG.size ∧ j = .int .i64 n ∧ ok = .bool true) (fun _ j => SG.size - (intOf j).toNat)
        case atStart => exact ⟨0, Nat.zero_le _, rfl, rfl⟩
        case round =>
          obtain ⟨n, hn, rfl, rfl⟩ := hrel
          by_cases hn2 : n < SG.size
          · go_wp2
            exact ⟨⟨n + 1, by omega, by go_num, rfl⟩, by simp [intOf]; omega⟩
          · obtain rfl : n = SG.size := by omega
            clear hn hn2
            go_wp2
            refine ⟨⟨k + 1, by omega, by go_num, fun j hj => ?_⟩, by simp [intOf]; omega⟩
            rcases Nat.lt_or_ge j k with h | h
            · exact H.out j h
            · obtain rfl : j = k := by omega
              exact HK.out
      by_cases r65 : 65 ≤ c ∧ c ≤ 90
      · obtain ⟨ra, rb⟩ := r65
        have HK := Lib.hid (lok_alnum (show alnI (at0 (sb s) k) = true by rw [hA]; simp only [alnI, smlI, grtI, digI, Bool.or_eq_true, Bool.and_eq_true, decide_eq_true_eq]; omega) hAne)
        clear h46 hA hAne
        go_wp2
        go_loop [6, 7] (fun ok j => ∃ n : Nat, n ≤ SG.size ∧ j = .int .i64 n ∧ ok = .bool true) (fun _ j => SG.size - (intOf j).toNat)
        case atStart => exact ⟨0, Nat.zero_le _, rfl, rfl⟩
        case round =>
          obtain ⟨n, hn, rfl, rfl⟩ := hrel
          by_cases hn2 : n < SG.size
          · go_wp2
            exact ⟨⟨n + 1, by omega, by go_num, rfl⟩, by simp [intOf]; omega⟩
          · obtain rfl : n = SG.size := by omega
            clear hn hn2
            go_wp2
            refine ⟨⟨k + 1, by omega, by go_num, fun j hj => ?_⟩, by simp [intOf]; omega⟩
            rcases Nat.lt_or_ge j k with h | h
            · exact H.out j h
            · obtain rfl : j = k := by omega
              exact HK.out
      by_cases r97 : 97 ≤ c ∧ c ≤ 122
      · obtain ⟨ra, rb⟩ := r97
        have HK := Lib.hid (lok_alnum (show alnI (at0 (sb s) k) = true by rw [hA]; simp only [alnI, smlI, grtI, digI, Bool.or_eq_true, Bool.and_eq_true, decide_eq_true_eq]; omega) hAne)
        clear h46 hA hAne
        go_wp2
        go_loop [6, 7] (fun ok j => ∃ n : Nat, n ≤ SG.size ∧ j = .int .i64 n ∧ ok = .bool true) (fun _ j => SG.size - (intOf j).toNat)
        case atStart => exact ⟨0, Nat.zero_le _, rfl, rfl⟩
        case round =>
          obtain ⟨n, hn, rfl, rfl⟩ := hrel
          by_cases hn2 : n < SG.size
          · go_wp2
            exact ⟨⟨n + 1, by omega, by go_num, rfl⟩, by simp [intOf]; omega⟩
          · obtain rfl : n = SG.size := by omega
            clear hn hn2
            go_wp2
            refine ⟨⟨k + 1, by omega, by go_num, fun j hj => ?_⟩, by simp [intOf]; omega⟩
            rcases Nat.lt_or_ge j k with h | h
            · exact H.out j h
            · obtain rfl : j = k := by omega
              exact HK.out
      have haln : alnI (at0 (sb s) k) = false := by
        rw [hA]
        cases hx : alnI c
        · rfl
        · simp only [alnI, smlI, grtI, digI, Bool.or_eq_true, Bool.and_eq_true, decide_eq_true_eq] at hx; omega
      have hsga := sgl_all c
      have hlokc := lok_sign haln hAne (b := sgsI c) (by rw [hA])
      rw [← hsga] at hlokc
      have HLC := Lib.hid hlokc
      have HX := Lib.hid (And.intro r48 (And.intro r65 r97))
      have hgap : c < 48 ∨ (57 < c ∧ c < 65) ∨ (90 < c ∧ c < 97) ∨ 122 < c := by omega
      clear h46 hA hAne haln hsga hlokc r48 r65 r97
      rcases hgap with y1 | ⟨y1, y2⟩ | ⟨y1, y2⟩ | y1
      · have y3 : c < 65 := by omega
        have y4 : c < 97 := by omega
        go_wp2
        go_loop [6, 7] (fun ok j => ∃ n : Nat, n ≤ SG.size ∧ j = .int .i64 n ∧ ok = .bool ((sgl.take n).any (· == c))) (fun _ j => SG.size - (intOf j).toNat)
        case atStart => exact ⟨0, Nat.zero_le _, rfl, rfl⟩
        case round =>
          obtain ⟨n, hn, rfl, rfl⟩ := hrel
          by_cases hn2 : n < SG.size
          · have hsu := sgl_succ c n (by omega)
            have hix := at0_sb SG n hn2
            rw [HG1.out] at hix
            rw [hix] at hsu
            have HSU := Lib.hid hsu; clear hsu hix
            generalize hq : (sgl.take n).any (· == c) = q at *
            have HQ := Lib.hid hq; clear hq
            cases q
            · go_wp2
              exact ⟨⟨n + 1, by omega, by go_num, by rw [HSU.out]; rfl⟩, by simp [intOf]; omega⟩
            · go_wp2
              exact ⟨⟨n + 1, by omega, by go_num, by rw [HSU.out]; rfl⟩, by simp [intOf]; omega⟩
          · obtain rfl : n = SG.size := by omega
            clear hn hn2
            rw [HG2.out]
            generalize hq : (sgl.take 19).any (· == c) = q at *
            have HQ := Lib.hid hq; clear hq
            cases q
            · have HK := Lib.hid HLC.out
              go_wp2
              go_ret
              refine ⟨?_, rfl⟩
              have : localL (sb s) = false := by
                cases h : localL (sb s)
                · rfl
                · have := HI.out.1 h k hlk; rw [HK.out] at this; cases this
              rw [this]; rfl
            · have HK := Lib.hid HLC.out
              go_wp2
              refine ⟨⟨k + 1, by omega, by go_num, fun j hj => ?_⟩, by simp [intOf]; omega⟩
              rcases Nat.lt_or_ge j k with h | h
              · exact H.out j h
              · obtain rfl : j = k := by omega
                exact HK.out
      · have y4 : c < 97 := by omega
        have y5 : decide (c ≤ 57) = false := by simp; omega
        go_wp2
        go_loop [6, 7] (fun ok j => ∃ n : Nat, n ≤ SG.size ∧ j = .int .i64 n ∧ ok = .bool ((sgl.take n).any (· == c))) (fun _ j => SG.size - (intOf j).toNat)
        case atStart => exact ⟨0, Nat.zero_le _, rfl, rfl⟩
        case round =>
          obtain ⟨n, hn, rfl, rfl⟩ := hrel
          by_cases hn2 : n < SG.size
          · have hsu := sgl_succ c n (by omega)
            have hix := at0_sb SG n hn2
            rw [HG1.out] at hix
            rw [hix] at hsu
            have HSU := Lib.hid hsu; clear hsu hix
            generalize hq : (sgl.take n).any (· == c) = q at *
            have HQ := Lib.hid hq; clear hq
            cases q
            · go_wp2
              exact ⟨⟨n + 1, by omega, by go_num, by rw [HSU.out]; rfl⟩, by simp [intOf]; omega⟩
            · go_wp2
              exact ⟨⟨n + 1, by omega, by go_num, by rw [HSU.out]; rfl⟩, by simp [intOf]; omega⟩
          · obtain rfl : n = SG.size := by omega
            clear hn hn2
            rw [HG2.out]
            generalize hq : (sgl.take 19).any (· == c) = q at *
            have HQ := Lib.hid hq; clear hq
            cases q
            · have HK := Lib.hid HLC.out
              go_wp2
              go_ret
              refine ⟨?_, rfl⟩
              have : localL (sb s) = false := by
                cases h : localL (sb s)
                · rfl
                · have := HI.out.1 h k hlk; rw [HK.out] at this; cases this
              rw [this]; rfl
            · have HK := Lib.hid HLC.out
              go_wp2
              refine ⟨⟨k + 1, by omega, by go_num, fun j hj => ?_⟩, by simp [intOf]; omega⟩
              rcases Nat.lt_or_ge j k with h | h
              · exact H.out j h
              · obtain rfl : j = k := by omega
                exact HK.out
      · have y5 : decide (c ≤ 57) = false := by simp; omega
        have y6 : decide (c ≤ 90) = false := by simp; omega
        go_wp2
        go_loop [6, 7] (fun ok j => ∃ n : Nat, n ≤ SG.size ∧ j = .int .i64 n ∧ ok = .bool ((sgl.take n).any (· == c))) (fun _ j => SG.size - (intOf j).toNat)
        case atStart => exact ⟨0, Nat.zero_le _, rfl, rfl⟩
        case round =>
          obtain ⟨n, hn, rfl, rfl⟩ := hrel
          by_cases hn2 : n < SG.size
          · have hsu := sgl_succ c n (by omega)
            have hix := at0_sb SG n hn2
            rw [HG1.out] at hix
            rw [hix] at hsu
            have HSU := Lib.hid hsu; clear hsu hix
            generalize hq : (sgl.take n).any (· == c) = q at *
            have HQ := Lib.hid hq; clear hq
            cases q
            · go_wp2
              exact ⟨⟨n + 1, by omega, by go_num, by rw [HSU.out]; rfl⟩, by simp [intOf]; omega⟩
            · go_wp2
              exact ⟨⟨n + 1, by omega, by go_num, by rw [HSU.out]; rfl⟩, by simp [intOf]; omega⟩
          · obtain rfl : n = SG.size := by omega
            clear hn hn2
            rw [HG2.out]
            generalize hq : (sgl.take 19).any (· == c) = q at *
            have HQ := Lib.hid hq; clear hq
            cases q
            · have HK := Lib.hid HLC.out
              go_wp2
              go_ret
              refine ⟨?_, rfl⟩
              have : localL (sb s) = false := by
                cases h : localL (sb s)
                · rfl
                · have := HI.out.1 h k hlk; rw [HK.out] at this; cases this
              rw [this]; rfl
            · have HK := Lib.hid HLC.out
              go_wp2
              refine ⟨⟨k + 1, by omega, by go_num, fun j hj => ?_⟩, by simp [intOf]; omega⟩
              rcases Nat.lt_or_ge j k with h | h
              · exact H.out j h
              · obtain rfl : j = k := by omega
                exact HK.out
      · have y5 : decide (c ≤ 57) = false := by simp; omega
        have y6 : decide (c ≤ 90) = false := by simp; omega
        have y7 : decide (c ≤ 122) = false := by simp; omega
        go_wp2
        go_loop [6, 7] (fun ok j => ∃ n : Nat, n ≤ SG.size ∧ j = .int .i64 n ∧ ok = .bool ((sgl.take n).any (· == c))) (fun _ j => SG.size - (intOf j).toNat)
        case atStart => exact ⟨0, Nat.zero_le _, rfl, rfl⟩
        case round =>
          obtain ⟨n, hn, rfl, rfl⟩ := hrel
          by_cases hn2 : n < SG.size
          · have hsu := sgl_succ c n (by omega)
            have hix := at0_sb SG n hn2
            rw [HG1.out] at hix
            rw [hix] at hsu
            have HSU := Lib.hid hsu; clear hsu hix
            generalize hq : (sgl.take n).any (· == c) = q at *
            have HQ := Lib.hid hq; clear hq
            cases q
            · go_wp2
              exact ⟨⟨n + 1, by omega, by go_num, by rw [HSU.out]; rfl⟩, by simp [intOf]; omega⟩
            · go_wp2
              exact ⟨⟨n + 1, by omega, by go_num, by rw [HSU.out]; rfl⟩, by simp [intOf]; omega⟩
          · obtain rfl : n = SG.size := by omega
            clear hn hn2
            rw [HG2.out]
            generalize hq : (sgl.take 19).any (· == c) = q at *
            have HQ := Lib.hid hq; clear hq
            cases q
            · have HK := Lib.hid HLC.out
              go_wp2
              go_ret
              refine ⟨?_, rfl⟩
              have : localL (sb s) = false := by
                cases h : localL (sb s)
                · rfl
                · have := HI.out.1 h k hlk; rw [HK.out] at this; cases this
              rw [this]; rfl
            · have HK := Lib.hid HLC.out
              go_wp2
              refine ⟨⟨k + 1, by omega, by go_num, fun j hj => ?_⟩, by simp [intOf]; omega⟩
              rcases Nat.lt_or_ge j k with h | h
              · exact H.out j h
              · obtain rfl : j = k := by omega
                exact HK.out
    · go_wp2
      go_ret
      refine ⟨?_, rfl⟩
      have : localL (sb s) = true := HI.out.2 (fun i hi => H.out i (by have := HL.out; omega))
      rw [this]; rfl
theorem ref_local_is (s : ByteArray) (b : Bool) (w : World) (hs : s.size ≤ maxLen) (h : localL (sb s) = b) :
    Calls Tryd.prog 58 #[.string s] w fun e w' => e = .returned (.bool b) ∧ w = w' := by rw [← h]; exact ref_local_any s w hs
end Go.Proofs.YtibkkdbjmcongaaDoor
