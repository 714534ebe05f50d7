/- The rounds of sha: tell; the sizes of blocks. -/
import Derived.Test.YtohnicmacmkapaaDoorShaC
namespace Go.Proofs.YtohnicmacmkapaaDoor
open Go.RowKit
set_option linter.unusedVariables false
set_option maxRecDepth 8000

theorem blockSize_v (n : Int) (w : World) (h : n = 32 ∨ n = 64) : Calls Tryd.prog 35 #[.int .i64 n] w fun e w' => e = .returned (.int .i64 (2 * n)) ∧ w' = w := by
  rcases h with rfl | rfl
  all_goals
    go_enter Tryd.func35, Tryd.ntmps35
    go_wp2
    go_ret
    exact ⟨rfl, rfl⟩
theorem lengthSize_v (n : Int) (w : World) (h : n = 32 ∨ n = 64) : Calls Tryd.prog 36 #[.int .i64 n] w fun e w' => e = .returned (.int .i64 (n / 4)) ∧ w' = w := by
  rcases h with rfl | rfl
  all_goals
    go_enter Tryd.func36, Tryd.ntmps36
    go_wp2
    go_ret
    exact ⟨rfl, rfl⟩
/-- How many bytes there are with what is padded. -/
def padded (n wd : Int) : Int := if n < 0 ∨ 1099511627776 < n ∨ (wd ≠ 32 ∧ wd ≠ 64) then 0 else (n + 1 + wd / 4 + 2 * wd - 1) / (2 * wd) * (2 * wd)
theorem padded_v (n wd : Int) (w : World) (hn : -9223372036854775808 ≤ n ∧ n ≤ 9223372036854775807) (hw : -9223372036854775808 ≤ wd ∧ wd ≤ 9223372036854775807) :
    Calls Tryd.prog 14 #[.int .i64 n, .int .i64 wd] w fun e w' => e = .returned (.int .i64 (padded n wd)) ∧ w' = w := by
  by_cases h : n < 0 ∨ 1099511627776 < n ∨ (wd ≠ 32 ∧ wd ≠ 64)
  · rw [show padded n wd = 0 from if_pos h]
    have hb : (decide (n < 0) || (decide (1099511627776 < n) || (decide (wd ≠ 32) && decide (wd ≠ 64)))) = true := by simpa using h
    by_cases h1 : n < 0
    · have d1 : decide (n < 0) = true := decide_eq_true h1
      go_enter Tryd.func14, Tryd.ntmps14
      go_wp2
      go_ret
      exact ⟨rfl, rfl⟩
    · by_cases h2 : 1099511627776 < n
      · go_enter Tryd.func14, Tryd.ntmps14
        go_wp2
        go_ret
        exact ⟨rfl, rfl⟩
      · have h3 : wd ≠ 32 ∧ wd ≠ 64 := by omega
        obtain ⟨h4, h5⟩ := h3
        have b4 : (wd != 32) = true := by simpa using h4
        have b5 : (wd != 64) = true := by simpa using h5
        clear hb h h4 h5
        go_enter Tryd.func14, Tryd.ntmps14
        go_wp2
        go_ret
        exact ⟨rfl, rfl⟩
  · have h6 : wd = 32 ∨ wd = 64 := by omega
    have h7 : ¬ n < 0 := by omega
    have h8 : ¬ 1099511627776 < n := by omega
    rw [show padded n wd = (n + 1 + wd / 4 + 2 * wd - 1) / (2 * wd) * (2 * wd) from if_neg h]
    clear h
    have HB := fun W => blockSize_v wd W h6
    have HL := fun W => lengthSize_v wd W h6
    rcases h6 with rfl | rfl
    all_goals
      go_enter Tryd.func14, Tryd.ntmps14
      go_wp2_with (first
        | (go_at_call 35; (with_reducible refine (HB _).mono ?_); rintro e w1 ⟨rfl, rfl⟩)
        | (go_at_call 36; (with_reducible refine (HL _).mono ?_); rintro e w1 ⟨rfl, rfl⟩))
      go_ret
      exact ⟨rfl, rfl⟩
/-- The bytes of a state. -/
def tell64 (st : List Int) : List Int := (List.range 64).map fun i => at0 st (i / 8) / 2 ^ (8 * (8 - 1 - i % 8)) % 256
theorem tell64_at (st : List Int) (i : Nat) (h : i < 64) : at0 (tell64 st) i = at0 st (i / 8) / 2 ^ (8 * (8 - 1 - i % 8)) % 256 := by simp [tell64, at0, h]
set_option maxHeartbeats 1000000 in
theorem tell64_v (w : World) (B Bs : Nat) (st zs : List Int) (hr : RS64 w B st) (hz : Arr .u8 w Bs zs) (hl : zs.length = 64) (hne : B ≠ Bs) :
    Calls Tryd.prog 34 #[.pointer (some ⟨B, 0, none⟩), .slice (some ⟨Bs, 0, none⟩) 64 64] w fun e w' => (∃ v, e = .returned v) ∧ Arr .u8 w' Bs (tell64 st) ∧ w.grownBy w' (some Bs) := by
  have hwd := hr.width
  go_enter Tryd.func34, Tryd.ntmps34
  go_wp2
  go_loopw [13] (fun i wr => ∃ (k : Nat) (ys : List Int), k ≤ 64 ∧ i = .int .i64 k ∧ RS64 wr B st ∧ Arr .u8 wr Bs ys ∧ ys.length = 64 ∧ w.grownBy wr (some Bs) ∧ ∀ q, q < k → at0 ys q = at0 (tell64 st) q) (fun i _ => 64 - (intOf i).toNat)
  case atStart => exact ⟨0, zs, by omega, rfl, hr, hz, hl, World.grownBy.refl _ _, fun q h => by omega⟩
  case round =>
    clear hr hz hwd
    obtain ⟨k, ys, hk, rfl, hr, hz, hyl, hg, hys⟩ := hrel
    by_cases hlt : k < 64
    · have hk8 : k / 8 < 8 := by omega
      obtain ⟨cj, -⟩ := hr.stAt hk8
      have hsi := hr.stIn (k / 8)
      have cs := hz.cell (k := k) (by omega)
      have fs := hz.free (k := k) (by omega)
      have hat := tell64_at st k hlt
      generalize at0 st (k / 8) = s at *
      obtain ⟨s0, s1⟩ := hsi
      obtain ⟨q, e1, hq⟩ : ∃ q : Nat, IntKind.i64.wrap ((k : Int) / 8) = (q : Int) ∧ q = k / 8 := ⟨k / 8, by rw [wrap_id64 (by omega) (by omega)]; omega, rfl⟩
      obtain ⟨r, e2, hr2⟩ : ∃ r : Nat, (k : Int).tmod 8 = (r : Int) ∧ r = k % 8 := ⟨k % 8, by rw [Int.tmod_eq_emod_of_nonneg (by omega)]; omega, rfl⟩
      have e5 : IntKind.i64.wrap 7 = 7 := by decide
      obtain ⟨t, e3, ht⟩ : ∃ t : Nat, IntKind.i64.wrap ((7 : Int) - (r : Int)) = (t : Int) ∧ t = 7 - r := ⟨7 - r, by rw [wrap_id64 (by omega) (by omega)]; omega, rfl⟩
      obtain ⟨u, e4, hu⟩ : ∃ u : Nat, IntKind.i64.wrap ((8 : Int) * (t : Int)) = (u : Int) ∧ u = 8 * t := ⟨8 * t, by rw [wrap_id64 (by omega) (by omega)]; omega, rfl⟩
      have hu2 : 8 * (8 - 1 - k % 8) = u := by omega
      rw [hu2] at hat
      have hu3 : (u : Int) < 64 := by omega
      have hq8 : (q : Int) < 8 := by omega
      rw [← hq] at cj
      clear hu2 hq hr2 ht hu hk8
      replace hat := Lib.hid hat
      replace hys := Lib.hid hys
      go_wp2
      go_still_tail 20, (by kernel_rfl)
      change wpList _ _ _ _ _ wr.drew
      go_wp2
      refine ⟨⟨k + 1, ys.set k (s / 2 ^ u % 256), by omega, by go_num, hr.but (grown_drew (grown_set (World.grownBy.refl wr (some Bs)) k _)) (by simpa using hne), arr_drew (hz.set k _), by simp [hyl], grown_drew (grown_set hg _ _), fun q hq => ?_⟩, by simp only [intOf]; omega⟩
      rw [at0_set ys k q _ (by omega)]
      by_cases e : q = k
      · rw [if_pos e, e, hat.out]
      · rw [if_neg e]; exact hys.out q (by omega)
    · obtain rfl : k = 64 := by omega
      have e : ys = tell64 st := eq_of_all (by rw [hyl]; simp [tell64]) fun q h => hys q (by rw [hyl] at h; exact h)
      subst e
      go_wp2
      refine bodyPost_end (results_none rfl _ _ _) rfl ?_
      exact ⟨⟨_, rfl⟩, hz, hg⟩
/-- The bytes of a state. -/
def tell32 (st : List Int) : List Int := (List.range 32).map fun i => at0 st (i / 4) / 2 ^ (8 * (4 - 1 - i % 4)) % 256
theorem tell32_at (st : List Int) (i : Nat) (h : i < 32) : at0 (tell32 st) i = at0 st (i / 4) / 2 ^ (8 * (4 - 1 - i % 4)) % 256 := by simp [tell32, at0, h]
set_option maxHeartbeats 1000000 in
theorem tell32_v (w : World) (B Bs : Nat) (st zs : List Int) (hr : RS32 w B st) (hz : Arr .u8 w Bs zs) (hl : zs.length = 32) (hne : B ≠ Bs) :
    Calls Tryd.prog 25 #[.pointer (some ⟨B, 0, none⟩), .slice (some ⟨Bs, 0, none⟩) 32 32] w fun e w' => (∃ v, e = .returned v) ∧ Arr .u8 w' Bs (tell32 st) ∧ w.grownBy w' (some Bs) := by
  have hwd := hr.width
  go_enter Tryd.func25, Tryd.ntmps25
  go_wp2
  go_loopw [13] (fun i wr => ∃ (k : Nat) (ys : List Int), k ≤ 32 ∧ i = .int .i64 k ∧ RS32 wr B st ∧ Arr .u8 wr Bs ys ∧ ys.length = 32 ∧ w.grownBy wr (some Bs) ∧ ∀ q, q < k → at0 ys q = at0 (tell32 st) q) (fun i _ => 32 - (intOf i).toNat)
  case atStart => exact ⟨0, zs, by omega, rfl, hr, hz, hl, World.grownBy.refl _ _, fun q h => by omega⟩
  case round =>
    clear hr hz hwd
    obtain ⟨k, ys, hk, rfl, hr, hz, hyl, hg, hys⟩ := hrel
    by_cases hlt : k < 32
    · have hk8 : k / 4 < 8 := by omega
      obtain ⟨cj, -⟩ := hr.stAt hk8
      have hsi := hr.stIn (k / 4)
      have cs := hz.cell (k := k) (by omega)
      have fs := hz.free (k := k) (by omega)
      have hat := tell32_at st k hlt
      generalize at0 st (k / 4) = s at *
      obtain ⟨s0, s1⟩ := hsi
      obtain ⟨q, e1, hq⟩ : ∃ q : Nat, IntKind.i64.wrap ((k : Int) / 4) = (q : Int) ∧ q = k / 4 := ⟨k / 4, by rw [wrap_id64 (by omega) (by omega)]; omega, rfl⟩
      obtain ⟨r, e2, hr2⟩ : ∃ r : Nat, (k : Int).tmod 4 = (r : Int) ∧ r = k % 4 := ⟨k % 4, by rw [Int.tmod_eq_emod_of_nonneg (by omega)]; omega, rfl⟩
      have e5 : IntKind.i64.wrap 3 = 3 := by decide
      obtain ⟨t, e3, ht⟩ : ∃ t : Nat, IntKind.i64.wrap ((3 : Int) - (r : Int)) = (t : Int) ∧ t = 3 - r := ⟨3 - r, by rw [wrap_id64 (by omega) (by omega)]; omega, rfl⟩
      obtain ⟨u, e4, hu⟩ : ∃ u : Nat, IntKind.i64.wrap ((8 : Int) * (t : Int)) = (u : Int) ∧ u = 8 * t := ⟨8 * t, by rw [wrap_id64 (by omega) (by omega)]; omega, rfl⟩
      have hu2 : 8 * (4 - 1 - k % 4) = u := by omega
      rw [hu2] at hat
      have hu3 : (u : Int) < 32 := by omega
      have hq8 : (q : Int) < 8 := by omega
      rw [← hq] at cj
      clear hu2 hq hr2 ht hu hk8
      replace hat := Lib.hid hat
      replace hys := Lib.hid hys
      go_wp2
      go_still_tail 20, (by kernel_rfl)
      change wpList _ _ _ _ _ wr.drew
      go_wp2
      refine ⟨⟨k + 1, ys.set k (s / 2 ^ u % 256), by omega, by go_num, hr.but (grown_drew (grown_set (World.grownBy.refl wr (some Bs)) k _)) (by simpa using hne), arr_drew (hz.set k _), by simp [hyl], grown_drew (grown_set hg _ _), fun q hq => ?_⟩, by simp only [intOf]; omega⟩
      rw [at0_set ys k q _ (by omega)]
      by_cases e : q = k
      · rw [if_pos e, e, hat.out]
      · rw [if_neg e]; exact hys.out q (by omega)
    · obtain rfl : k = 32 := by omega
      have e : ys = tell32 st := eq_of_all (by rw [hyl]; simp [tell32]) fun q h => hys q (by rw [hyl] at h; exact h)
      subst e
      go_wp2
      refine bodyPost_end (results_none rfl _ _ _) rfl ?_
      exact ⟨⟨_, rfl⟩, hz, hg⟩
end Go.Proofs.YtohnicmacmkapaaDoor
