/- The reference's First: the rune that bytes begin with, by its own words; it answers as package utf's. -/
import Derived.Test.YticeogdagnogpaaUtfFirst
namespace Go.Proofs.Yticeogdagnogpaa
open Go.RowKit
set_option linter.unusedVariables false

theorem fst2_yes {l : List Int} (h0 : 192 ≤ at0 l 0 ∧ at0 l 0 < 224) (hl : 2 ≤ l.length) (hc : (128 ≤ at0 l 1 ∧ at0 l 1 < 192))
    (hr : 128 ≤ (at0 l 0 - 192) * 64 + at0 l 1 - 128 ∧ (at0 l 0 - 192) * 64 + at0 l 1 - 128 ≤ 2047 ∧ ((at0 l 0 - 192) * 64 + at0 l 1 - 128 < 55296 ∨ 57343 < (at0 l 0 - 192) * 64 + at0 l 1 - 128)) :
    fstS l = some ((at0 l 0 - 192) * 64 + at0 l 1 - 128, 2) := by
  obtain ⟨hc1, hc1b⟩ := hc
  have hd1 := contB_iff.2 ⟨hc1, hc1b⟩
  rw [fstS, if_neg (by omega), if_neg (by omega), if_neg (by omega), if_pos (by omega), if_pos (by simp [hl, hd1]), okS_yes (by omega) (by unfold widthI; omega)]
  have e : ∀ r r' : Int, r = r' → (some (r, 2) : Option (Int × Nat)) = some (r', 2) := fun r r' h => by rw [h]
  exact e _ _ (by omega)
theorem fst2_no {l : List Int} (h0 : 192 ≤ at0 l 0 ∧ at0 l 0 < 224) (h : l.length < 2 ∨ at0 l 1 < 128 ∨ 192 ≤ at0 l 1 ∨
    ¬ (128 ≤ (at0 l 0 - 192) * 64 + at0 l 1 - 128 ∧ (at0 l 0 - 192) * 64 + at0 l 1 - 128 ≤ 2047 ∧ ((at0 l 0 - 192) * 64 + at0 l 1 - 128 < 55296 ∨ 57343 < (at0 l 0 - 192) * 64 + at0 l 1 - 128))) : fstS l = none := by
  by_cases h1 : l.length = 0
  · rw [fstS, if_pos h1]
  rw [fstS, if_neg (by omega), if_neg (by omega), if_neg (by omega), if_pos (by omega)]
  split
  · rename_i hq
    simp [contB] at hq
    exact okS_no (by unfold widthI; omega)
  · rfl
theorem fst3_yes {l : List Int} (h0 : 224 ≤ at0 l 0 ∧ at0 l 0 < 240) (hl : 3 ≤ l.length) (hc : (128 ≤ at0 l 1 ∧ at0 l 1 < 192) ∧ (128 ≤ at0 l 2 ∧ at0 l 2 < 192))
    (hr : 2048 ≤ ((at0 l 0 - 224) * 64 + at0 l 1 - 128) * 64 + at0 l 2 - 128 ∧ ((at0 l 0 - 224) * 64 + at0 l 1 - 128) * 64 + at0 l 2 - 128 ≤ 65535 ∧ (((at0 l 0 - 224) * 64 + at0 l 1 - 128) * 64 + at0 l 2 - 128 < 55296 ∨ 57343 < ((at0 l 0 - 224) * 64 + at0 l 1 - 128) * 64 + at0 l 2 - 128)) :
    fstS l = some (((at0 l 0 - 224) * 64 + at0 l 1 - 128) * 64 + at0 l 2 - 128, 3) := by
  obtain ⟨hc1, hc2⟩ := hc
  have hd1 := contB_iff.2 hc1
  have hd2 := contB_iff.2 hc2
  rw [fstS, if_neg (by omega), if_neg (by omega), if_neg (by omega), if_neg (by omega), if_pos (by omega), if_pos (by simp [hl, hd1, hd2]), okS_yes (by omega) (by unfold widthI; omega)]
  have e : ∀ r r' : Int, r = r' → (some (r, 3) : Option (Int × Nat)) = some (r', 3) := fun r r' h => by rw [h]
  exact e _ _ (by omega)
theorem fst3_no {l : List Int} (h0 : 224 ≤ at0 l 0 ∧ at0 l 0 < 240) (h : l.length < 3 ∨ at0 l 1 < 128 ∨ 192 ≤ at0 l 1 ∨ at0 l 2 < 128 ∨ 192 ≤ at0 l 2 ∨
    ¬ (2048 ≤ ((at0 l 0 - 224) * 64 + at0 l 1 - 128) * 64 + at0 l 2 - 128 ∧ ((at0 l 0 - 224) * 64 + at0 l 1 - 128) * 64 + at0 l 2 - 128 ≤ 65535 ∧ (((at0 l 0 - 224) * 64 + at0 l 1 - 128) * 64 + at0 l 2 - 128 < 55296 ∨ 57343 < ((at0 l 0 - 224) * 64 + at0 l 1 - 128) * 64 + at0 l 2 - 128))) : fstS l = none := by
  by_cases h1 : l.length = 0
  · rw [fstS, if_pos h1]
  rw [fstS, if_neg (by omega), if_neg (by omega), if_neg (by omega), if_neg (by omega), if_pos (by omega)]
  split
  · rename_i hq
    simp [contB] at hq
    exact okS_no (by unfold widthI; omega)
  · rfl
theorem fst4_yes {l : List Int} (h0 : 240 ≤ at0 l 0 ∧ at0 l 0 < 248) (hl : 4 ≤ l.length) (hc : (128 ≤ at0 l 1 ∧ at0 l 1 < 192) ∧ (128 ≤ at0 l 2 ∧ at0 l 2 < 192) ∧ (128 ≤ at0 l 3 ∧ at0 l 3 < 192))
    (hr : 65536 ≤ (((at0 l 0 - 240) * 64 + at0 l 1 - 128) * 64 + at0 l 2 - 128) * 64 + at0 l 3 - 128 ∧ (((at0 l 0 - 240) * 64 + at0 l 1 - 128) * 64 + at0 l 2 - 128) * 64 + at0 l 3 - 128 ≤ 1114111 ∧ ((((at0 l 0 - 240) * 64 + at0 l 1 - 128) * 64 + at0 l 2 - 128) * 64 + at0 l 3 - 128 < 55296 ∨ 57343 < (((at0 l 0 - 240) * 64 + at0 l 1 - 128) * 64 + at0 l 2 - 128) * 64 + at0 l 3 - 128)) :
    fstS l = some ((((at0 l 0 - 240) * 64 + at0 l 1 - 128) * 64 + at0 l 2 - 128) * 64 + at0 l 3 - 128, 4) := by
  obtain ⟨hc1, hc2, hc3⟩ := hc
  have hd1 := contB_iff.2 hc1
  have hd2 := contB_iff.2 hc2
  have hd3 := contB_iff.2 hc3
  rw [fstS, if_neg (by omega), if_neg (by omega), if_neg (by omega), if_neg (by omega), if_neg (by omega), if_pos (by omega), if_pos (by simp [hl, hd1, hd2, hd3]), okS_yes (by omega) (by unfold widthI; omega)]
  have e : ∀ r r' : Int, r = r' → (some (r, 4) : Option (Int × Nat)) = some (r', 4) := fun r r' h => by rw [h]
  exact e _ _ (by omega)
theorem fst4_no {l : List Int} (h0 : 240 ≤ at0 l 0 ∧ at0 l 0 < 248) (h : l.length < 4 ∨ at0 l 1 < 128 ∨ 192 ≤ at0 l 1 ∨ at0 l 2 < 128 ∨ 192 ≤ at0 l 2 ∨ at0 l 3 < 128 ∨ 192 ≤ at0 l 3 ∨
    ¬ (65536 ≤ (((at0 l 0 - 240) * 64 + at0 l 1 - 128) * 64 + at0 l 2 - 128) * 64 + at0 l 3 - 128 ∧ (((at0 l 0 - 240) * 64 + at0 l 1 - 128) * 64 + at0 l 2 - 128) * 64 + at0 l 3 - 128 ≤ 1114111 ∧ ((((at0 l 0 - 240) * 64 + at0 l 1 - 128) * 64 + at0 l 2 - 128) * 64 + at0 l 3 - 128 < 55296 ∨ 57343 < (((at0 l 0 - 240) * 64 + at0 l 1 - 128) * 64 + at0 l 2 - 128) * 64 + at0 l 3 - 128))) : fstS l = none := by
  by_cases h1 : l.length = 0
  · rw [fstS, if_pos h1]
  rw [fstS, if_neg (by omega), if_neg (by omega), if_neg (by omega), if_neg (by omega), if_neg (by omega), if_pos (by omega)]
  split
  · rename_i hq
    simp [contB] at hq
    exact okS_no (by unfold widthI; omega)
  · rfl
theorem fst5_no {l : List Int} (h : 248 ≤ at0 l 0 ∨ (128 ≤ at0 l 0 ∧ at0 l 0 < 192) ∨ l.length = 0) : fstS l = none := by
  by_cases h1 : l.length = 0
  · rw [fstS, if_pos h1]
  rw [fstS, if_neg h1, if_neg (by omega)]
  split
  · rfl
  rw [if_neg (by omega), if_neg (by omega), if_neg (by omega)]
theorem fst1_yes {l : List Int} (h : at0 l 0 < 128) (hl : 1 ≤ l.length) : fstS l = some (at0 l 0, 1) := by
  rw [fstS, if_neg (by omega), if_pos h]
theorem isRune_yes {r : Int} (h : 0 ≤ r ∧ r ≤ 1114111 ∧ (r < 55296 ∨ 57343 < r)) : isRuneB r = true := by
  simp [isRuneB]; omega
theorem isRune_no {r : Int} (h : ¬ (0 ≤ r ∧ r ≤ 1114111 ∧ (r < 55296 ∨ 57343 < r))) : isRuneB r = false := by
  simp [isRuneB]; omega

theorem one1_any (r : Int) (w : World) (h0 : 0 ≤ r) (h1 : r ≤ 127) :
    Calls Try.prog 45 #[.int .i32 r] w fun e w' => e = .returned (.slice (some ⟨w.heap.size, 0, none⟩) 1 1) ∧ Below w.heap.size w w' ∧ w'.cell? ⟨w.heap.size, 0, none⟩ = some (.int .u8 (r)) := by
  go_enter Try.func45, Try.ntmps45
  go_wp2
  all_goals go_ret
  all_goals refine ⟨rfl, (Below.refl _ _).alloc (Nat.le_refl _) _, ?_⟩
  all_goals (rw [World.cell?_alloc_at _ _ _ _ rfl]; rfl)
theorem one2_any (r : Int) (w : World) (h0 : 128 ≤ r) (h1 : r ≤ 2047) :
    Calls Try.prog 45 #[.int .i32 r] w fun e w' => e = .returned (.slice (some ⟨w.heap.size, 0, none⟩) 2 2) ∧ Below w.heap.size w w' ∧ w'.cell? ⟨w.heap.size, 0, none⟩ = some (.int .u8 (192 + r / 64)) ∧ w'.cell? ⟨w.heap.size, 1, none⟩ = some (.int .u8 (128 + r % 64)) := by
  go_enter Try.func45, Try.ntmps45
  go_wp2
  all_goals go_ret
  all_goals refine ⟨rfl, (Below.refl _ _).alloc (Nat.le_refl _) _, ?_, ?_⟩
  all_goals (rw [World.cell?_alloc_at _ _ _ _ rfl]; rfl)
theorem one3_any (r : Int) (w : World) (h0 : 2048 ≤ r) (h1 : r ≤ 65535) :
    Calls Try.prog 45 #[.int .i32 r] w fun e w' => e = .returned (.slice (some ⟨w.heap.size, 0, none⟩) 3 3) ∧ Below w.heap.size w w' ∧ w'.cell? ⟨w.heap.size, 0, none⟩ = some (.int .u8 (224 + r / 4096)) ∧ w'.cell? ⟨w.heap.size, 1, none⟩ = some (.int .u8 (128 + r / 64 % 64)) ∧ w'.cell? ⟨w.heap.size, 2, none⟩ = some (.int .u8 (128 + r % 64)) := by
  go_enter Try.func45, Try.ntmps45
  go_wp2
  all_goals go_ret
  all_goals refine ⟨rfl, (Below.refl _ _).alloc (Nat.le_refl _) _, ?_, ?_, ?_⟩
  all_goals (rw [World.cell?_alloc_at _ _ _ _ rfl]; rfl)
theorem one4_any (r : Int) (w : World) (h0 : 65536 ≤ r) (h1 : r ≤ 1114111) :
    Calls Try.prog 45 #[.int .i32 r] w fun e w' => e = .returned (.slice (some ⟨w.heap.size, 0, none⟩) 4 4) ∧ Below w.heap.size w w' ∧ w'.cell? ⟨w.heap.size, 0, none⟩ = some (.int .u8 (240 + r / 262144)) ∧ w'.cell? ⟨w.heap.size, 1, none⟩ = some (.int .u8 (128 + r / 4096 % 64)) ∧ w'.cell? ⟨w.heap.size, 2, none⟩ = some (.int .u8 (128 + r / 64 % 64)) ∧ w'.cell? ⟨w.heap.size, 3, none⟩ = some (.int .u8 (128 + r % 64)) := by
  go_enter Try.func45, Try.ntmps45
  go_wp2
  all_goals go_ret
  all_goals refine ⟨rfl, (Below.refl _ _).alloc (Nat.le_refl _) _, ?_, ?_, ?_, ?_⟩
  all_goals (rw [World.cell?_alloc_at _ _ _ _ rfl]; rfl)
set_option maxHeartbeats 4000000 in
theorem ref_first_11 (x o : Nat) (ca : Nat) (l : List Int) (w : World) (hma : ca ≤ 9223372036854775807) (hla : l.length ≤ ca) (hb : Bytes l) (hcell : ∀ k, k < l.length → w.cell? ⟨x, o + k, none⟩ = some (.int .u8 (at0 l k))) (h0 : 0 < l.length)
    (hcls : at0 l 0 < 192) (h1 : 0 ≤ at0 l 0) (h2 : at0 l 0 ≤ 127) (hR : at0 l 0 < 55296 ∨ 57343 < at0 l 0) :
    Calls Try.prog 19 #[.slice (some ⟨x, o, none⟩) l.length ca] w fun e w' => e = .returned (firstV (fstS l)) ∧ Below w.heap.size w w' := by
  have hne : ((l.length : Int) == 0) = false := beq_no (by omega)
  have d0 := hcell 0 h0
  rw [Nat.add_zero] at d0
  have hx : x < w.heap.size := World.block_lt_of_cell? w ⟨x, o, none⟩ d0
  obtain ⟨e0, f0⟩ := hb.at 0
  have HC := Lib.hid hcell; clear hcell
  have hr : isRuneB (at0 l 0) = true := isRune_yes (by omega)
  go_enter Try.func19, Try.ntmps19
  go_wp2
  go_quiet (fail)
  go_wp2
  refine wp_loop_rounds 4 ?_
  repeat any_goals (rw [rounds_succ]; go_wp2_with (first | (go_at_call 44; refine (rune_any _ _).mono ?_; rintro e w1 ⟨rfl, rfl⟩) | (go_at_call 45; refine (one1_any _ _ (by omega) (by omega)).mono ?_; rintro e w1 ⟨rfl, hbe, n0⟩; have hbe2 := (below_drewN (Below.refl w.heap.size w) _).trans hbe; have D0 := (hbe.cell (p := ⟨x, o, none⟩) hx).trans d0; simp only [World.heap_drewN] at n0; clear hbe)))
  refine wp_loop_rounds 5 ?_
  repeat any_goals (first | (rw [rounds_succ]; go_wp2) | (go_quiet (fail); go_wp2))
  all_goals go_ret3
  all_goals refine ⟨?_, by repeat (first | assumption | exact Below.refl _ _ | refine below_drewN ?_ _ | refine Below.alloc ?_ (by simp) _ | refine Below.drew ?_)⟩
  all_goals (rw [fst1_yes (by omega) (by omega)]; rfl)
set_option maxHeartbeats 4000000 in
theorem ref_first_12 (x o : Nat) (ca : Nat) (l : List Int) (w : World) (hma : ca ≤ 9223372036854775807) (hla : l.length ≤ ca) (hb : Bytes l) (hcell : ∀ k, k < l.length → w.cell? ⟨x, o + k, none⟩ = some (.int .u8 (at0 l k))) (h0 : 0 < l.length)
    (hcls : at0 l 0 < 192) (h1 : 128 ≤ at0 l 0) (h2 : at0 l 0 ≤ 2047) (hR : at0 l 0 < 55296 ∨ 57343 < at0 l 0) :
    Calls Try.prog 19 #[.slice (some ⟨x, o, none⟩) l.length ca] w fun e w' => e = .returned (firstV (fstS l)) ∧ Below w.heap.size w w' := by
  have hne : ((l.length : Int) == 0) = false := beq_no (by omega)
  have d0 := hcell 0 h0
  rw [Nat.add_zero] at d0
  have hx : x < w.heap.size := World.block_lt_of_cell? w ⟨x, o, none⟩ d0
  obtain ⟨e0, f0⟩ := hb.at 0
  have HC := Lib.hid hcell; clear hcell
  have HF := Lib.hid (show fstS l = none from fst5_no (.inr (.inl ⟨h1, hcls⟩)))
  have hr : isRuneB (at0 l 0) = true := isRune_yes (by omega)
  go_enter Try.func19, Try.ntmps19
  go_wp2
  go_quiet (fail)
  go_wp2
  refine wp_loop_rounds 4 ?_
  repeat any_goals (rw [rounds_succ]; go_wp2_with (first | (go_at_call 44; refine (rune_any _ _).mono ?_; rintro e w1 ⟨rfl, rfl⟩) | (go_at_call 45; refine (one2_any _ _ (by omega) (by omega)).mono ?_; rintro e w1 ⟨rfl, hbe, n0, n1⟩; have hbe2 := (below_drewN (Below.refl w.heap.size w) _).trans hbe; have D0 := (hbe.cell (p := ⟨x, o, none⟩) hx).trans d0; simp only [World.heap_drewN] at n0 n1; clear hbe)))
  all_goals go_ret3
  all_goals exact ⟨by rw [HF.out]; rfl, by repeat (first | assumption | exact Below.refl _ _ | refine below_drewN ?_ _ | refine Below.alloc ?_ (by simp) _ | refine Below.drew ?_)⟩
set_option maxHeartbeats 4000000 in
theorem ref_first_2s (x o : Nat) (ca : Nat) (l : List Int) (w : World) (hma : ca ≤ 9223372036854775807) (hla : l.length ≤ ca) (hb : Bytes l) (hcell : ∀ k, k < l.length → w.cell? ⟨x, o + k, none⟩ = some (.int .u8 (at0 l k))) (h0 : 0 < l.length)
    (hcls : 192 ≤ at0 l 0 ∧ at0 l 0 < 224) (hs : l.length < 2) :
    Calls Try.prog 19 #[.slice (some ⟨x, o, none⟩) l.length ca] w fun e w' => e = .returned (firstV (fstS l)) ∧ Below w.heap.size w w' := by
  have hne : ((l.length : Int) == 0) = false := beq_no (by omega)
  have d0 := hcell 0 h0
  rw [Nat.add_zero] at d0
  have hx : x < w.heap.size := World.block_lt_of_cell? w ⟨x, o, none⟩ d0
  obtain ⟨e0, f0⟩ := hb.at 0
  obtain ⟨k0, k1⟩ := hcls
  have HF := Lib.hid (show fstS l = none from fst2_no ⟨k0, k1⟩ (.inl hs))
  clear hcell
  go_enter Try.func19, Try.ntmps19
  go_wp2
  go_quiet (fail)
  go_wp2
  go_quiet (fail)
  go_wp2
  go_ret3
  exact ⟨by rw [HF.out]; rfl, by repeat (first | assumption | exact Below.refl _ _ | refine below_drewN ?_ _ | refine Below.alloc ?_ (by simp) _ | refine Below.drew ?_)⟩
set_option maxHeartbeats 4000000 in
theorem ref_first_2n (x o : Nat) (ca : Nat) (l : List Int) (w : World) (hma : ca ≤ 9223372036854775807) (hla : l.length ≤ ca) (hb : Bytes l) (hcell : ∀ k, k < l.length → w.cell? ⟨x, o + k, none⟩ = some (.int .u8 (at0 l k))) (h0 : 0 < l.length)
    (hcls : 192 ≤ at0 l 0 ∧ at0 l 0 < 224) (hl : 2 ≤ l.length) (hR : ¬ (0 ≤ (at0 l 0 - 192) * 64 + at0 l 1 - 128 ∧ (at0 l 0 - 192) * 64 + at0 l 1 - 128 ≤ 1114111 ∧ ((at0 l 0 - 192) * 64 + at0 l 1 - 128 < 55296 ∨ 57343 < (at0 l 0 - 192) * 64 + at0 l 1 - 128))) :
    Calls Try.prog 19 #[.slice (some ⟨x, o, none⟩) l.length ca] w fun e w' => e = .returned (firstV (fstS l)) ∧ Below w.heap.size w w' := by
  have hne : ((l.length : Int) == 0) = false := beq_no (by omega)
  have d0 := hcell 0 h0
  rw [Nat.add_zero] at d0
  have hx : x < w.heap.size := World.block_lt_of_cell? w ⟨x, o, none⟩ d0
  obtain ⟨e0, f0⟩ := hb.at 0
  obtain ⟨k0, k1⟩ := hcls
  have d1 := hcell 1 (by omega)
  obtain ⟨e1, f1⟩ := hb.at 1
  have lt1 : 1 < l.length := by omega
  have HC := Lib.hid hcell; clear hcell
  have HF := Lib.hid (show fstS l = none from fst2_no ⟨k0, k1⟩ (by omega))
  have hr := isRune_no hR
  clear hR
  go_enter Try.func19, Try.ntmps19
  go_wp2
  go_quiet (fail)
  go_wp2
  go_quiet (fail)
  go_wp2
  refine wp_loop_rounds 4 ?_
  repeat any_goals (rw [rounds_succ]; go_wp2_with (go_at_call 44; refine (rune_any _ _).mono ?_; rintro e w1 ⟨rfl, rfl⟩))
  all_goals go_ret3
  all_goals exact ⟨by rw [HF.out]; rfl, by repeat (first | assumption | exact Below.refl _ _ | refine below_drewN ?_ _ | refine Below.alloc ?_ (by simp) _ | refine Below.drew ?_)⟩
set_option maxHeartbeats 4000000 in
theorem ref_first_21 (x o : Nat) (ca : Nat) (l : List Int) (w : World) (hma : ca ≤ 9223372036854775807) (hla : l.length ≤ ca) (hb : Bytes l) (hcell : ∀ k, k < l.length → w.cell? ⟨x, o + k, none⟩ = some (.int .u8 (at0 l k))) (h0 : 0 < l.length)
    (hcls : 192 ≤ at0 l 0 ∧ at0 l 0 < 224) (hl : 2 ≤ l.length) (h1 : 0 ≤ (at0 l 0 - 192) * 64 + at0 l 1 - 128) (h2 : (at0 l 0 - 192) * 64 + at0 l 1 - 128 ≤ 127) (hR : (at0 l 0 - 192) * 64 + at0 l 1 - 128 < 55296 ∨ 57343 < (at0 l 0 - 192) * 64 + at0 l 1 - 128) :
    Calls Try.prog 19 #[.slice (some ⟨x, o, none⟩) l.length ca] w fun e w' => e = .returned (firstV (fstS l)) ∧ Below w.heap.size w w' := by
  have hne : ((l.length : Int) == 0) = false := beq_no (by omega)
  have d0 := hcell 0 h0
  rw [Nat.add_zero] at d0
  have hx : x < w.heap.size := World.block_lt_of_cell? w ⟨x, o, none⟩ d0
  obtain ⟨e0, f0⟩ := hb.at 0
  obtain ⟨k0, k1⟩ := hcls
  have d1 := hcell 1 (by omega)
  obtain ⟨e1, f1⟩ := hb.at 1
  have lt1 : 1 < l.length := by omega
  have HC := Lib.hid hcell; clear hcell
  have HF := Lib.hid (show fstS l = none from fst2_no ⟨k0, k1⟩ (by omega))
  have hr : isRuneB ((at0 l 0 - 192) * 64 + at0 l 1 - 128) = true := isRune_yes (by omega)
  go_enter Try.func19, Try.ntmps19
  go_wp2
  go_quiet (fail)
  go_wp2
  go_quiet (fail)
  go_wp2
  refine wp_loop_rounds 4 ?_
  repeat any_goals (rw [rounds_succ]; go_wp2_with (first | (go_at_call 44; refine (rune_any _ _).mono ?_; rintro e w1 ⟨rfl, rfl⟩) | (go_at_call 45; refine (one1_any _ _ (by omega) (by omega)).mono ?_; rintro e w1 ⟨rfl, hbe, n0⟩; have hbe2 := (below_drewN (Below.refl w.heap.size w) _).trans hbe; have D0 := (hbe.cell (p := ⟨x, o, none⟩) hx).trans d0; have D1 := (hbe.cell (p := ⟨x, o + 1, none⟩) hx).trans d1; simp only [World.heap_drewN] at n0; clear hbe)))
  all_goals go_ret3
  all_goals exact ⟨by rw [HF.out]; rfl, by repeat (first | assumption | exact Below.refl _ _ | refine below_drewN ?_ _ | refine Below.alloc ?_ (by simp) _ | refine Below.drew ?_)⟩
set_option maxHeartbeats 4000000 in
theorem ref_first_22 (x o : Nat) (ca : Nat) (l : List Int) (w : World) (hma : ca ≤ 9223372036854775807) (hla : l.length ≤ ca) (hb : Bytes l) (hcell : ∀ k, k < l.length → w.cell? ⟨x, o + k, none⟩ = some (.int .u8 (at0 l k))) (h0 : 0 < l.length)
    (hcls : 192 ≤ at0 l 0 ∧ at0 l 0 < 224) (hl : 2 ≤ l.length) (h1 : 128 ≤ (at0 l 0 - 192) * 64 + at0 l 1 - 128) (h2 : (at0 l 0 - 192) * 64 + at0 l 1 - 128 ≤ 2047) (hR : (at0 l 0 - 192) * 64 + at0 l 1 - 128 < 55296 ∨ 57343 < (at0 l 0 - 192) * 64 + at0 l 1 - 128) :
    Calls Try.prog 19 #[.slice (some ⟨x, o, none⟩) l.length ca] w fun e w' => e = .returned (firstV (fstS l)) ∧ Below w.heap.size w w' := by
  have hne : ((l.length : Int) == 0) = false := beq_no (by omega)
  have d0 := hcell 0 h0
  rw [Nat.add_zero] at d0
  have hx : x < w.heap.size := World.block_lt_of_cell? w ⟨x, o, none⟩ d0
  obtain ⟨e0, f0⟩ := hb.at 0
  obtain ⟨k0, k1⟩ := hcls
  have d1 := hcell 1 (by omega)
  obtain ⟨e1, f1⟩ := hb.at 1
  have lt1 : 1 < l.length := by omega
  have HC := Lib.hid hcell; clear hcell
  have hr : isRuneB ((at0 l 0 - 192) * 64 + at0 l 1 - 128) = true := isRune_yes (by omega)
  go_enter Try.func19, Try.ntmps19
  go_wp2
  go_quiet (fail)
  go_wp2
  go_quiet (fail)
  go_wp2
  refine wp_loop_rounds 4 ?_
  repeat any_goals (rw [rounds_succ]; go_wp2_with (first | (go_at_call 44; refine (rune_any _ _).mono ?_; rintro e w1 ⟨rfl, rfl⟩) | (go_at_call 45; refine (one2_any _ _ (by omega) (by omega)).mono ?_; rintro e w1 ⟨rfl, hbe, n0, n1⟩; have hbe2 := (below_drewN (Below.refl w.heap.size w) _).trans hbe; have D0 := (hbe.cell (p := ⟨x, o, none⟩) hx).trans d0; have D1 := (hbe.cell (p := ⟨x, o + 1, none⟩) hx).trans d1; simp only [World.heap_drewN] at n0 n1; clear hbe)))
  refine wp_loop_rounds 5 ?_
  repeat any_goals (first | (rw [rounds_succ]; go_wp2) | (go_quiet (fail); go_wp2))
  all_goals go_ret3
  all_goals refine ⟨?_, by repeat (first | assumption | exact Below.refl _ _ | refine below_drewN ?_ _ | refine Below.alloc ?_ (by simp) _ | refine Below.drew ?_)⟩
  all_goals simp only [bne_iff_ne, ne_eq, bne_eq_false_iff_eq] at *
  all_goals first
    | (rw [fst2_yes ⟨k0, k1⟩ (by omega) (by omega) (by omega)]; rfl)
    | (rw [fst2_no ⟨k0, k1⟩ (by omega)]; rfl)
set_option maxHeartbeats 4000000 in
theorem ref_first_23 (x o : Nat) (ca : Nat) (l : List Int) (w : World) (hma : ca ≤ 9223372036854775807) (hla : l.length ≤ ca) (hb : Bytes l) (hcell : ∀ k, k < l.length → w.cell? ⟨x, o + k, none⟩ = some (.int .u8 (at0 l k))) (h0 : 0 < l.length)
    (hcls : 192 ≤ at0 l 0 ∧ at0 l 0 < 224) (hl : 2 ≤ l.length) (h1 : 2048 ≤ (at0 l 0 - 192) * 64 + at0 l 1 - 128) (h2 : (at0 l 0 - 192) * 64 + at0 l 1 - 128 ≤ 65535) (hR : (at0 l 0 - 192) * 64 + at0 l 1 - 128 < 55296 ∨ 57343 < (at0 l 0 - 192) * 64 + at0 l 1 - 128) :
    Calls Try.prog 19 #[.slice (some ⟨x, o, none⟩) l.length ca] w fun e w' => e = .returned (firstV (fstS l)) ∧ Below w.heap.size w w' := by
  have hne : ((l.length : Int) == 0) = false := beq_no (by omega)
  have d0 := hcell 0 h0
  rw [Nat.add_zero] at d0
  have hx : x < w.heap.size := World.block_lt_of_cell? w ⟨x, o, none⟩ d0
  obtain ⟨e0, f0⟩ := hb.at 0
  obtain ⟨k0, k1⟩ := hcls
  have d1 := hcell 1 (by omega)
  obtain ⟨e1, f1⟩ := hb.at 1
  have lt1 : 1 < l.length := by omega
  have HC := Lib.hid hcell; clear hcell
  have HF := Lib.hid (show fstS l = none from fst2_no ⟨k0, k1⟩ (by omega))
  have hr : isRuneB ((at0 l 0 - 192) * 64 + at0 l 1 - 128) = true := isRune_yes (by omega)
  go_enter Try.func19, Try.ntmps19
  go_wp2
  go_quiet (fail)
  go_wp2
  go_quiet (fail)
  go_wp2
  refine wp_loop_rounds 4 ?_
  repeat any_goals (rw [rounds_succ]; go_wp2_with (first | (go_at_call 44; refine (rune_any _ _).mono ?_; rintro e w1 ⟨rfl, rfl⟩) | (go_at_call 45; refine (one3_any _ _ (by omega) (by omega)).mono ?_; rintro e w1 ⟨rfl, hbe, n0, n1, n2⟩; have hbe2 := (below_drewN (Below.refl w.heap.size w) _).trans hbe; have D0 := (hbe.cell (p := ⟨x, o, none⟩) hx).trans d0; have D1 := (hbe.cell (p := ⟨x, o + 1, none⟩) hx).trans d1; simp only [World.heap_drewN] at n0 n1 n2; clear hbe)))
  all_goals go_ret3
  all_goals exact ⟨by rw [HF.out]; rfl, by repeat (first | assumption | exact Below.refl _ _ | refine below_drewN ?_ _ | refine Below.alloc ?_ (by simp) _ | refine Below.drew ?_)⟩
set_option maxHeartbeats 4000000 in
theorem ref_first_3s (x o : Nat) (ca : Nat) (l : List Int) (w : World) (hma : ca ≤ 9223372036854775807) (hla : l.length ≤ ca) (hb : Bytes l) (hcell : ∀ k, k < l.length → w.cell? ⟨x, o + k, none⟩ = some (.int .u8 (at0 l k))) (h0 : 0 < l.length)
    (hcls : 224 ≤ at0 l 0 ∧ at0 l 0 < 240) (hs : l.length < 3) :
    Calls Try.prog 19 #[.slice (some ⟨x, o, none⟩) l.length ca] w fun e w' => e = .returned (firstV (fstS l)) ∧ Below w.heap.size w w' := by
  have hne : ((l.length : Int) == 0) = false := beq_no (by omega)
  have d0 := hcell 0 h0
  rw [Nat.add_zero] at d0
  have hx : x < w.heap.size := World.block_lt_of_cell? w ⟨x, o, none⟩ d0
  obtain ⟨e0, f0⟩ := hb.at 0
  obtain ⟨k0, k1⟩ := hcls
  have HF := Lib.hid (show fstS l = none from fst3_no ⟨k0, k1⟩ (.inl hs))
  clear hcell
  go_enter Try.func19, Try.ntmps19
  go_wp2
  go_quiet (fail)
  go_wp2
  go_quiet (fail)
  go_wp2
  go_ret3
  exact ⟨by rw [HF.out]; rfl, by repeat (first | assumption | exact Below.refl _ _ | refine below_drewN ?_ _ | refine Below.alloc ?_ (by simp) _ | refine Below.drew ?_)⟩
set_option maxHeartbeats 4000000 in
theorem ref_first_3n (x o : Nat) (ca : Nat) (l : List Int) (w : World) (hma : ca ≤ 9223372036854775807) (hla : l.length ≤ ca) (hb : Bytes l) (hcell : ∀ k, k < l.length → w.cell? ⟨x, o + k, none⟩ = some (.int .u8 (at0 l k))) (h0 : 0 < l.length)
    (hcls : 224 ≤ at0 l 0 ∧ at0 l 0 < 240) (hl : 3 ≤ l.length) (hR : ¬ (0 ≤ ((at0 l 0 - 224) * 64 + at0 l 1 - 128) * 64 + at0 l 2 - 128 ∧ ((at0 l 0 - 224) * 64 + at0 l 1 - 128) * 64 + at0 l 2 - 128 ≤ 1114111 ∧ (((at0 l 0 - 224) * 64 + at0 l 1 - 128) * 64 + at0 l 2 - 128 < 55296 ∨ 57343 < ((at0 l 0 - 224) * 64 + at0 l 1 - 128) * 64 + at0 l 2 - 128))) :
    Calls Try.prog 19 #[.slice (some ⟨x, o, none⟩) l.length ca] w fun e w' => e = .returned (firstV (fstS l)) ∧ Below w.heap.size w w' := by
  have hne : ((l.length : Int) == 0) = false := beq_no (by omega)
  have d0 := hcell 0 h0
  rw [Nat.add_zero] at d0
  have hx : x < w.heap.size := World.block_lt_of_cell? w ⟨x, o, none⟩ d0
  obtain ⟨e0, f0⟩ := hb.at 0
  obtain ⟨k0, k1⟩ := hcls
  have d1 := hcell 1 (by omega)
  obtain ⟨e1, f1⟩ := hb.at 1
  have lt1 : 1 < l.length := by omega
  have d2 := hcell 2 (by omega)
  obtain ⟨e2, f2⟩ := hb.at 2
  have lt2 : 2 < l.length := by omega
  have HC := Lib.hid hcell; clear hcell
  have HF := Lib.hid (show fstS l = none from fst3_no ⟨k0, k1⟩ (by omega))
  have hr := isRune_no hR
  clear hR
  go_enter Try.func19, Try.ntmps19
  go_wp2
  go_quiet (fail)
  go_wp2
  go_quiet (fail)
  go_wp2
  refine wp_loop_rounds 4 ?_
  repeat any_goals (rw [rounds_succ]; go_wp2_with (go_at_call 44; refine (rune_any _ _).mono ?_; rintro e w1 ⟨rfl, rfl⟩))
  all_goals go_ret3
  all_goals exact ⟨by rw [HF.out]; rfl, by repeat (first | assumption | exact Below.refl _ _ | refine below_drewN ?_ _ | refine Below.alloc ?_ (by simp) _ | refine Below.drew ?_)⟩
set_option maxHeartbeats 4000000 in
theorem ref_first_31 (x o : Nat) (ca : Nat) (l : List Int) (w : World) (hma : ca ≤ 9223372036854775807) (hla : l.length ≤ ca) (hb : Bytes l) (hcell : ∀ k, k < l.length → w.cell? ⟨x, o + k, none⟩ = some (.int .u8 (at0 l k))) (h0 : 0 < l.length)
    (hcls : 224 ≤ at0 l 0 ∧ at0 l 0 < 240) (hl : 3 ≤ l.length) (h1 : 0 ≤ ((at0 l 0 - 224) * 64 + at0 l 1 - 128) * 64 + at0 l 2 - 128) (h2 : ((at0 l 0 - 224) * 64 + at0 l 1 - 128) * 64 + at0 l 2 - 128 ≤ 127) (hR : ((at0 l 0 - 224) * 64 + at0 l 1 - 128) * 64 + at0 l 2 - 128 < 55296 ∨ 57343 < ((at0 l 0 - 224) * 64 + at0 l 1 - 128) * 64 + at0 l 2 - 128) :
    Calls Try.prog 19 #[.slice (some ⟨x, o, none⟩) l.length ca] w fun e w' => e = .returned (firstV (fstS l)) ∧ Below w.heap.size w w' := by
  have hne : ((l.length : Int) == 0) = false := beq_no (by omega)
  have d0 := hcell 0 h0
  rw [Nat.add_zero] at d0
  have hx : x < w.heap.size := World.block_lt_of_cell? w ⟨x, o, none⟩ d0
  obtain ⟨e0, f0⟩ := hb.at 0
  obtain ⟨k0, k1⟩ := hcls
  have d1 := hcell 1 (by omega)
  obtain ⟨e1, f1⟩ := hb.at 1
  have lt1 : 1 < l.length := by omega
  have d2 := hcell 2 (by omega)
  obtain ⟨e2, f2⟩ := hb.at 2
  have lt2 : 2 < l.length := by omega
  have HC := Lib.hid hcell; clear hcell
  have HF := Lib.hid (show fstS l = none from fst3_no ⟨k0, k1⟩ (by omega))
  have hr : isRuneB (((at0 l 0 - 224) * 64 + at0 l 1 - 128) * 64 + at0 l 2 - 128) = true := isRune_yes (by omega)
  go_enter Try.func19, Try.ntmps19
  go_wp2
  go_quiet (fail)
  go_wp2
  go_quiet (fail)
  go_wp2
  refine wp_loop_rounds 4 ?_
  repeat any_goals (rw [rounds_succ]; go_wp2_with (first | (go_at_call 44; refine (rune_any _ _).mono ?_; rintro e w1 ⟨rfl, rfl⟩) | (go_at_call 45; refine (one1_any _ _ (by omega) (by omega)).mono ?_; rintro e w1 ⟨rfl, hbe, n0⟩; have hbe2 := (below_drewN (Below.refl w.heap.size w) _).trans hbe; have D0 := (hbe.cell (p := ⟨x, o, none⟩) hx).trans d0; have D1 := (hbe.cell (p := ⟨x, o + 1, none⟩) hx).trans d1; have D2 := (hbe.cell (p := ⟨x, o + 2, none⟩) hx).trans d2; simp only [World.heap_drewN] at n0; clear hbe)))
  all_goals go_ret3
  all_goals exact ⟨by rw [HF.out]; rfl, by repeat (first | assumption | exact Below.refl _ _ | refine below_drewN ?_ _ | refine Below.alloc ?_ (by simp) _ | refine Below.drew ?_)⟩
set_option maxHeartbeats 4000000 in
theorem ref_first_32 (x o : Nat) (ca : Nat) (l : List Int) (w : World) (hma : ca ≤ 9223372036854775807) (hla : l.length ≤ ca) (hb : Bytes l) (hcell : ∀ k, k < l.length → w.cell? ⟨x, o + k, none⟩ = some (.int .u8 (at0 l k))) (h0 : 0 < l.length)
    (hcls : 224 ≤ at0 l 0 ∧ at0 l 0 < 240) (hl : 3 ≤ l.length) (h1 : 128 ≤ ((at0 l 0 - 224) * 64 + at0 l 1 - 128) * 64 + at0 l 2 - 128) (h2 : ((at0 l 0 - 224) * 64 + at0 l 1 - 128) * 64 + at0 l 2 - 128 ≤ 2047) (hR : ((at0 l 0 - 224) * 64 + at0 l 1 - 128) * 64 + at0 l 2 - 128 < 55296 ∨ 57343 < ((at0 l 0 - 224) * 64 + at0 l 1 - 128) * 64 + at0 l 2 - 128) :
    Calls Try.prog 19 #[.slice (some ⟨x, o, none⟩) l.length ca] w fun e w' => e = .returned (firstV (fstS l)) ∧ Below w.heap.size w w' := by
  have hne : ((l.length : Int) == 0) = false := beq_no (by omega)
  have d0 := hcell 0 h0
  rw [Nat.add_zero] at d0
  have hx : x < w.heap.size := World.block_lt_of_cell? w ⟨x, o, none⟩ d0
  obtain ⟨e0, f0⟩ := hb.at 0
  obtain ⟨k0, k1⟩ := hcls
  have d1 := hcell 1 (by omega)
  obtain ⟨e1, f1⟩ := hb.at 1
  have lt1 : 1 < l.length := by omega
  have d2 := hcell 2 (by omega)
  obtain ⟨e2, f2⟩ := hb.at 2
  have lt2 : 2 < l.length := by omega
  have HC := Lib.hid hcell; clear hcell
  have HF := Lib.hid (show fstS l = none from fst3_no ⟨k0, k1⟩ (by omega))
  have hr : isRuneB (((at0 l 0 - 224) * 64 + at0 l 1 - 128) * 64 + at0 l 2 - 128) = true := isRune_yes (by omega)
  go_enter Try.func19, Try.ntmps19
  go_wp2
  go_quiet (fail)
  go_wp2
  go_quiet (fail)
  go_wp2
  refine wp_loop_rounds 4 ?_
  repeat any_goals (rw [rounds_succ]; go_wp2_with (first | (go_at_call 44; refine (rune_any _ _).mono ?_; rintro e w1 ⟨rfl, rfl⟩) | (go_at_call 45; refine (one2_any _ _ (by omega) (by omega)).mono ?_; rintro e w1 ⟨rfl, hbe, n0, n1⟩; have hbe2 := (below_drewN (Below.refl w.heap.size w) _).trans hbe; have D0 := (hbe.cell (p := ⟨x, o, none⟩) hx).trans d0; have D1 := (hbe.cell (p := ⟨x, o + 1, none⟩) hx).trans d1; have D2 := (hbe.cell (p := ⟨x, o + 2, none⟩) hx).trans d2; simp only [World.heap_drewN] at n0 n1; clear hbe)))
  all_goals go_ret3
  all_goals exact ⟨by rw [HF.out]; rfl, by repeat (first | assumption | exact Below.refl _ _ | refine below_drewN ?_ _ | refine Below.alloc ?_ (by simp) _ | refine Below.drew ?_)⟩
set_option maxHeartbeats 4000000 in
theorem ref_first_33 (x o : Nat) (ca : Nat) (l : List Int) (w : World) (hma : ca ≤ 9223372036854775807) (hla : l.length ≤ ca) (hb : Bytes l) (hcell : ∀ k, k < l.length → w.cell? ⟨x, o + k, none⟩ = some (.int .u8 (at0 l k))) (h0 : 0 < l.length)
    (hcls : 224 ≤ at0 l 0 ∧ at0 l 0 < 240) (hl : 3 ≤ l.length) (h1 : 2048 ≤ ((at0 l 0 - 224) * 64 + at0 l 1 - 128) * 64 + at0 l 2 - 128) (h2 : ((at0 l 0 - 224) * 64 + at0 l 1 - 128) * 64 + at0 l 2 - 128 ≤ 65535) (hR : ((at0 l 0 - 224) * 64 + at0 l 1 - 128) * 64 + at0 l 2 - 128 < 55296 ∨ 57343 < ((at0 l 0 - 224) * 64 + at0 l 1 - 128) * 64 + at0 l 2 - 128) :
    Calls Try.prog 19 #[.slice (some ⟨x, o, none⟩) l.length ca] w fun e w' => e = .returned (firstV (fstS l)) ∧ Below w.heap.size w w' := by
  have hne : ((l.length : Int) == 0) = false := beq_no (by omega)
  have d0 := hcell 0 h0
  rw [Nat.add_zero] at d0
  have hx : x < w.heap.size := World.block_lt_of_cell? w ⟨x, o, none⟩ d0
  obtain ⟨e0, f0⟩ := hb.at 0
  obtain ⟨k0, k1⟩ := hcls
  have d1 := hcell 1 (by omega)
  obtain ⟨e1, f1⟩ := hb.at 1
  have lt1 : 1 < l.length := by omega
  have d2 := hcell 2 (by omega)
  obtain ⟨e2, f2⟩ := hb.at 2
  have lt2 : 2 < l.length := by omega
  have HC := Lib.hid hcell; clear hcell
  have hr : isRuneB (((at0 l 0 - 224) * 64 + at0 l 1 - 128) * 64 + at0 l 2 - 128) = true := isRune_yes (by omega)
  go_enter Try.func19, Try.ntmps19
  go_wp2
  go_quiet (fail)
  go_wp2
  go_quiet (fail)
  go_wp2
  refine wp_loop_rounds 4 ?_
  repeat any_goals (rw [rounds_succ]; go_wp2_with (first | (go_at_call 44; refine (rune_any _ _).mono ?_; rintro e w1 ⟨rfl, rfl⟩) | (go_at_call 45; refine (one3_any _ _ (by omega) (by omega)).mono ?_; rintro e w1 ⟨rfl, hbe, n0, n1, n2⟩; have hbe2 := (below_drewN (Below.refl w.heap.size w) _).trans hbe; have D0 := (hbe.cell (p := ⟨x, o, none⟩) hx).trans d0; have D1 := (hbe.cell (p := ⟨x, o + 1, none⟩) hx).trans d1; have D2 := (hbe.cell (p := ⟨x, o + 2, none⟩) hx).trans d2; simp only [World.heap_drewN] at n0 n1 n2; clear hbe)))
  refine wp_loop_rounds 5 ?_
  repeat any_goals (first | (rw [rounds_succ]; go_wp2) | (go_quiet (fail); go_wp2))
  all_goals go_ret3
  all_goals refine ⟨?_, by repeat (first | assumption | exact Below.refl _ _ | refine below_drewN ?_ _ | refine Below.alloc ?_ (by simp) _ | refine Below.drew ?_)⟩
  all_goals simp only [bne_iff_ne, ne_eq, bne_eq_false_iff_eq] at *
  all_goals first
    | (rw [fst3_yes ⟨k0, k1⟩ (by omega) (by omega) (by omega)]; rfl)
    | (rw [fst3_no ⟨k0, k1⟩ (by omega)]; rfl)
set_option maxHeartbeats 4000000 in
theorem ref_first_34 (x o : Nat) (ca : Nat) (l : List Int) (w : World) (hma : ca ≤ 9223372036854775807) (hla : l.length ≤ ca) (hb : Bytes l) (hcell : ∀ k, k < l.length → w.cell? ⟨x, o + k, none⟩ = some (.int .u8 (at0 l k))) (h0 : 0 < l.length)
    (hcls : 224 ≤ at0 l 0 ∧ at0 l 0 < 240) (hl : 3 ≤ l.length) (h1 : 65536 ≤ ((at0 l 0 - 224) * 64 + at0 l 1 - 128) * 64 + at0 l 2 - 128) (h2 : ((at0 l 0 - 224) * 64 + at0 l 1 - 128) * 64 + at0 l 2 - 128 ≤ 1114111) (hR : ((at0 l 0 - 224) * 64 + at0 l 1 - 128) * 64 + at0 l 2 - 128 < 55296 ∨ 57343 < ((at0 l 0 - 224) * 64 + at0 l 1 - 128) * 64 + at0 l 2 - 128) :
    Calls Try.prog 19 #[.slice (some ⟨x, o, none⟩) l.length ca] w fun e w' => e = .returned (firstV (fstS l)) ∧ Below w.heap.size w w' := by
  have hne : ((l.length : Int) == 0) = false := beq_no (by omega)
  have d0 := hcell 0 h0
  rw [Nat.add_zero] at d0
  have hx : x < w.heap.size := World.block_lt_of_cell? w ⟨x, o, none⟩ d0
  obtain ⟨e0, f0⟩ := hb.at 0
  obtain ⟨k0, k1⟩ := hcls
  have d1 := hcell 1 (by omega)
  obtain ⟨e1, f1⟩ := hb.at 1
  have lt1 : 1 < l.length := by omega
  have d2 := hcell 2 (by omega)
  obtain ⟨e2, f2⟩ := hb.at 2
  have lt2 : 2 < l.length := by omega
  have HC := Lib.hid hcell; clear hcell
  have HF := Lib.hid (show fstS l = none from fst3_no ⟨k0, k1⟩ (by omega))
  have hr : isRuneB (((at0 l 0 - 224) * 64 + at0 l 1 - 128) * 64 + at0 l 2 - 128) = true := isRune_yes (by omega)
  go_enter Try.func19, Try.ntmps19
  go_wp2
  go_quiet (fail)
  go_wp2
  go_quiet (fail)
  go_wp2
  refine wp_loop_rounds 4 ?_
  repeat any_goals (rw [rounds_succ]; go_wp2_with (first | (go_at_call 44; refine (rune_any _ _).mono ?_; rintro e w1 ⟨rfl, rfl⟩) | (go_at_call 45; refine (one4_any _ _ (by omega) (by omega)).mono ?_; rintro e w1 ⟨rfl, hbe, n0, n1, n2, n3⟩; have hbe2 := (below_drewN (Below.refl w.heap.size w) _).trans hbe; have D0 := (hbe.cell (p := ⟨x, o, none⟩) hx).trans d0; have D1 := (hbe.cell (p := ⟨x, o + 1, none⟩) hx).trans d1; have D2 := (hbe.cell (p := ⟨x, o + 2, none⟩) hx).trans d2; simp only [World.heap_drewN] at n0 n1 n2 n3; clear hbe)))
  all_goals go_ret3
  all_goals exact ⟨by rw [HF.out]; rfl, by repeat (first | assumption | exact Below.refl _ _ | refine below_drewN ?_ _ | refine Below.alloc ?_ (by simp) _ | refine Below.drew ?_)⟩
theorem no4 {l : List Int} (h : 240 ≤ at0 l 0) (hb : ∀ k, 0 ≤ at0 l k ∧ at0 l k ≤ 255) (h' : l.length < 4 ∨ (at0 l 1 < 128 ∨ 192 ≤ at0 l 1) ∨ (at0 l 2 < 128 ∨ 192 ≤ at0 l 2) ∨ (at0 l 3 < 128 ∨ 192 ≤ at0 l 3) ∨
    ¬ (65536 ≤ (((at0 l 0 - 240) * 64 + at0 l 1 - 128) * 64 + at0 l 2 - 128) * 64 + at0 l 3 - 128 ∧ (((at0 l 0 - 240) * 64 + at0 l 1 - 128) * 64 + at0 l 2 - 128) * 64 + at0 l 3 - 128 ≤ 1114111)) : fstS l = none := by
  have h1 := hb 1
  have h2 := hb 2
  have h3 := hb 3
  by_cases hk : at0 l 0 < 248
  · exact fst4_no ⟨h, hk⟩ (by omega)
  · exact fst5_no (by omega)
set_option maxHeartbeats 4000000 in
theorem ref_first_4s (x o : Nat) (ca : Nat) (l : List Int) (w : World) (hma : ca ≤ 9223372036854775807) (hla : l.length ≤ ca) (hb : Bytes l) (hcell : ∀ k, k < l.length → w.cell? ⟨x, o + k, none⟩ = some (.int .u8 (at0 l k))) (h0 : 0 < l.length)
    (hcls : 240 ≤ at0 l 0) (hs : l.length < 4) :
    Calls Try.prog 19 #[.slice (some ⟨x, o, none⟩) l.length ca] w fun e w' => e = .returned (firstV (fstS l)) ∧ Below w.heap.size w w' := by
  have hne : ((l.length : Int) == 0) = false := beq_no (by omega)
  have d0 := hcell 0 h0
  rw [Nat.add_zero] at d0
  have hx : x < w.heap.size := World.block_lt_of_cell? w ⟨x, o, none⟩ d0
  obtain ⟨e0, f0⟩ := hb.at 0
  have k0 := hcls
  have HF := Lib.hid (show fstS l = none from no4 k0 hb.at (.inl hs))
  clear hcell
  go_enter Try.func19, Try.ntmps19
  go_wp2
  go_quiet (fail)
  go_wp2
  go_quiet (fail)
  go_wp2
  go_ret3
  exact ⟨by rw [HF.out]; rfl, by repeat (first | assumption | exact Below.refl _ _ | refine below_drewN ?_ _ | refine Below.alloc ?_ (by simp) _ | refine Below.drew ?_)⟩
set_option maxHeartbeats 4000000 in
theorem ref_first_4n (x o : Nat) (ca : Nat) (l : List Int) (w : World) (hma : ca ≤ 9223372036854775807) (hla : l.length ≤ ca) (hb : Bytes l) (hcell : ∀ k, k < l.length → w.cell? ⟨x, o + k, none⟩ = some (.int .u8 (at0 l k))) (h0 : 0 < l.length)
    (hcls : 240 ≤ at0 l 0) (hl : 4 ≤ l.length) (hR : ¬ (0 ≤ (((at0 l 0 - 240) * 64 + at0 l 1 - 128) * 64 + at0 l 2 - 128) * 64 + at0 l 3 - 128 ∧ (((at0 l 0 - 240) * 64 + at0 l 1 - 128) * 64 + at0 l 2 - 128) * 64 + at0 l 3 - 128 ≤ 1114111 ∧ ((((at0 l 0 - 240) * 64 + at0 l 1 - 128) * 64 + at0 l 2 - 128) * 64 + at0 l 3 - 128 < 55296 ∨ 57343 < (((at0 l 0 - 240) * 64 + at0 l 1 - 128) * 64 + at0 l 2 - 128) * 64 + at0 l 3 - 128))) :
    Calls Try.prog 19 #[.slice (some ⟨x, o, none⟩) l.length ca] w fun e w' => e = .returned (firstV (fstS l)) ∧ Below w.heap.size w w' := by
  have hne : ((l.length : Int) == 0) = false := beq_no (by omega)
  have d0 := hcell 0 h0
  rw [Nat.add_zero] at d0
  have hx : x < w.heap.size := World.block_lt_of_cell? w ⟨x, o, none⟩ d0
  obtain ⟨e0, f0⟩ := hb.at 0
  have k0 := hcls
  have d1 := hcell 1 (by omega)
  obtain ⟨e1, f1⟩ := hb.at 1
  have lt1 : 1 < l.length := by omega
  have d2 := hcell 2 (by omega)
  obtain ⟨e2, f2⟩ := hb.at 2
  have lt2 : 2 < l.length := by omega
  have d3 := hcell 3 (by omega)
  obtain ⟨e3, f3⟩ := hb.at 3
  have lt3 : 3 < l.length := by omega
  have HC := Lib.hid hcell; clear hcell
  have HF := Lib.hid (show fstS l = none from no4 k0 hb.at (by omega))
  have hr := isRune_no hR
  clear hR
  go_enter Try.func19, Try.ntmps19
  go_wp2
  go_quiet (fail)
  go_wp2
  go_quiet (fail)
  go_wp2
  refine wp_loop_rounds 4 ?_
  repeat any_goals (rw [rounds_succ]; go_wp2_with (go_at_call 44; refine (rune_any _ _).mono ?_; rintro e w1 ⟨rfl, rfl⟩))
  all_goals go_ret3
  all_goals exact ⟨by rw [HF.out]; rfl, by repeat (first | assumption | exact Below.refl _ _ | refine below_drewN ?_ _ | refine Below.alloc ?_ (by simp) _ | refine Below.drew ?_)⟩
set_option maxHeartbeats 4000000 in
theorem ref_first_41 (x o : Nat) (ca : Nat) (l : List Int) (w : World) (hma : ca ≤ 9223372036854775807) (hla : l.length ≤ ca) (hb : Bytes l) (hcell : ∀ k, k < l.length → w.cell? ⟨x, o + k, none⟩ = some (.int .u8 (at0 l k))) (h0 : 0 < l.length)
    (hcls : 240 ≤ at0 l 0) (hl : 4 ≤ l.length) (h1 : 0 ≤ (((at0 l 0 - 240) * 64 + at0 l 1 - 128) * 64 + at0 l 2 - 128) * 64 + at0 l 3 - 128) (h2 : (((at0 l 0 - 240) * 64 + at0 l 1 - 128) * 64 + at0 l 2 - 128) * 64 + at0 l 3 - 128 ≤ 127) (hR : (((at0 l 0 - 240) * 64 + at0 l 1 - 128) * 64 + at0 l 2 - 128) * 64 + at0 l 3 - 128 < 55296 ∨ 57343 < (((at0 l 0 - 240) * 64 + at0 l 1 - 128) * 64 + at0 l 2 - 128) * 64 + at0 l 3 - 128) :
    Calls Try.prog 19 #[.slice (some ⟨x, o, none⟩) l.length ca] w fun e w' => e = .returned (firstV (fstS l)) ∧ Below w.heap.size w w' := by
  have hne : ((l.length : Int) == 0) = false := beq_no (by omega)
  have d0 := hcell 0 h0
  rw [Nat.add_zero] at d0
  have hx : x < w.heap.size := World.block_lt_of_cell? w ⟨x, o, none⟩ d0
  obtain ⟨e0, f0⟩ := hb.at 0
  have k0 := hcls
  have d1 := hcell 1 (by omega)
  obtain ⟨e1, f1⟩ := hb.at 1
  have lt1 : 1 < l.length := by omega
  have d2 := hcell 2 (by omega)
  obtain ⟨e2, f2⟩ := hb.at 2
  have lt2 : 2 < l.length := by omega
  have d3 := hcell 3 (by omega)
  obtain ⟨e3, f3⟩ := hb.at 3
  have lt3 : 3 < l.length := by omega
  have HC := Lib.hid hcell; clear hcell
  have HF := Lib.hid (show fstS l = none from no4 k0 hb.at (by omega))
  have hr : isRuneB ((((at0 l 0 - 240) * 64 + at0 l 1 - 128) * 64 + at0 l 2 - 128) * 64 + at0 l 3 - 128) = true := isRune_yes (by omega)
  go_enter Try.func19, Try.ntmps19
  go_wp2
  go_quiet (fail)
  go_wp2
  go_quiet (fail)
  go_wp2
  refine wp_loop_rounds 4 ?_
  repeat any_goals (rw [rounds_succ]; go_wp2_with (first | (go_at_call 44; refine (rune_any _ _).mono ?_; rintro e w1 ⟨rfl, rfl⟩) | (go_at_call 45; refine (one1_any _ _ (by omega) (by omega)).mono ?_; rintro e w1 ⟨rfl, hbe, n0⟩; have hbe2 := (below_drewN (Below.refl w.heap.size w) _).trans hbe; have D0 := (hbe.cell (p := ⟨x, o, none⟩) hx).trans d0; have D1 := (hbe.cell (p := ⟨x, o + 1, none⟩) hx).trans d1; have D2 := (hbe.cell (p := ⟨x, o + 2, none⟩) hx).trans d2; have D3 := (hbe.cell (p := ⟨x, o + 3, none⟩) hx).trans d3; simp only [World.heap_drewN] at n0; clear hbe)))
  all_goals go_ret3
  all_goals exact ⟨by rw [HF.out]; rfl, by repeat (first | assumption | exact Below.refl _ _ | refine below_drewN ?_ _ | refine Below.alloc ?_ (by simp) _ | refine Below.drew ?_)⟩
set_option maxHeartbeats 4000000 in
theorem ref_first_42 (x o : Nat) (ca : Nat) (l : List Int) (w : World) (hma : ca ≤ 9223372036854775807) (hla : l.length ≤ ca) (hb : Bytes l) (hcell : ∀ k, k < l.length → w.cell? ⟨x, o + k, none⟩ = some (.int .u8 (at0 l k))) (h0 : 0 < l.length)
    (hcls : 240 ≤ at0 l 0) (hl : 4 ≤ l.length) (h1 : 128 ≤ (((at0 l 0 - 240) * 64 + at0 l 1 - 128) * 64 + at0 l 2 - 128) * 64 + at0 l 3 - 128) (h2 : (((at0 l 0 - 240) * 64 + at0 l 1 - 128) * 64 + at0 l 2 - 128) * 64 + at0 l 3 - 128 ≤ 2047) (hR : (((at0 l 0 - 240) * 64 + at0 l 1 - 128) * 64 + at0 l 2 - 128) * 64 + at0 l 3 - 128 < 55296 ∨ 57343 < (((at0 l 0 - 240) * 64 + at0 l 1 - 128) * 64 + at0 l 2 - 128) * 64 + at0 l 3 - 128) :
    Calls Try.prog 19 #[.slice (some ⟨x, o, none⟩) l.length ca] w fun e w' => e = .returned (firstV (fstS l)) ∧ Below w.heap.size w w' := by
  have hne : ((l.length : Int) == 0) = false := beq_no (by omega)
  have d0 := hcell 0 h0
  rw [Nat.add_zero] at d0
  have hx : x < w.heap.size := World.block_lt_of_cell? w ⟨x, o, none⟩ d0
  obtain ⟨e0, f0⟩ := hb.at 0
  have k0 := hcls
  have d1 := hcell 1 (by omega)
  obtain ⟨e1, f1⟩ := hb.at 1
  have lt1 : 1 < l.length := by omega
  have d2 := hcell 2 (by omega)
  obtain ⟨e2, f2⟩ := hb.at 2
  have lt2 : 2 < l.length := by omega
  have d3 := hcell 3 (by omega)
  obtain ⟨e3, f3⟩ := hb.at 3
  have lt3 : 3 < l.length := by omega
  have HC := Lib.hid hcell; clear hcell
  have HF := Lib.hid (show fstS l = none from no4 k0 hb.at (by omega))
  have hr : isRuneB ((((at0 l 0 - 240) * 64 + at0 l 1 - 128) * 64 + at0 l 2 - 128) * 64 + at0 l 3 - 128) = true := isRune_yes (by omega)
  go_enter Try.func19, Try.ntmps19
  go_wp2
  go_quiet (fail)
  go_wp2
  go_quiet (fail)
  go_wp2
  refine wp_loop_rounds 4 ?_
  repeat any_goals (rw [rounds_succ]; go_wp2_with (first | (go_at_call 44; refine (rune_any _ _).mono ?_; rintro e w1 ⟨rfl, rfl⟩) | (go_at_call 45; refine (one2_any _ _ (by omega) (by omega)).mono ?_; rintro e w1 ⟨rfl, hbe, n0, n1⟩; have hbe2 := (below_drewN (Below.refl w.heap.size w) _).trans hbe; have D0 := (hbe.cell (p := ⟨x, o, none⟩) hx).trans d0; have D1 := (hbe.cell (p := ⟨x, o + 1, none⟩) hx).trans d1; have D2 := (hbe.cell (p := ⟨x, o + 2, none⟩) hx).trans d2; have D3 := (hbe.cell (p := ⟨x, o + 3, none⟩) hx).trans d3; simp only [World.heap_drewN] at n0 n1; clear hbe)))
  all_goals go_ret3
  all_goals exact ⟨by rw [HF.out]; rfl, by repeat (first | assumption | exact Below.refl _ _ | refine below_drewN ?_ _ | refine Below.alloc ?_ (by simp) _ | refine Below.drew ?_)⟩
set_option maxHeartbeats 4000000 in
theorem ref_first_43 (x o : Nat) (ca : Nat) (l : List Int) (w : World) (hma : ca ≤ 9223372036854775807) (hla : l.length ≤ ca) (hb : Bytes l) (hcell : ∀ k, k < l.length → w.cell? ⟨x, o + k, none⟩ = some (.int .u8 (at0 l k))) (h0 : 0 < l.length)
    (hcls : 240 ≤ at0 l 0) (hl : 4 ≤ l.length) (h1 : 2048 ≤ (((at0 l 0 - 240) * 64 + at0 l 1 - 128) * 64 + at0 l 2 - 128) * 64 + at0 l 3 - 128) (h2 : (((at0 l 0 - 240) * 64 + at0 l 1 - 128) * 64 + at0 l 2 - 128) * 64 + at0 l 3 - 128 ≤ 65535) (hR : (((at0 l 0 - 240) * 64 + at0 l 1 - 128) * 64 + at0 l 2 - 128) * 64 + at0 l 3 - 128 < 55296 ∨ 57343 < (((at0 l 0 - 240) * 64 + at0 l 1 - 128) * 64 + at0 l 2 - 128) * 64 + at0 l 3 - 128) :
    Calls Try.prog 19 #[.slice (some ⟨x, o, none⟩) l.length ca] w fun e w' => e = .returned (firstV (fstS l)) ∧ Below w.heap.size w w' := by
  have hne : ((l.length : Int) == 0) = false := beq_no (by omega)
  have d0 := hcell 0 h0
  rw [Nat.add_zero] at d0
  have hx : x < w.heap.size := World.block_lt_of_cell? w ⟨x, o, none⟩ d0
  obtain ⟨e0, f0⟩ := hb.at 0
  have k0 := hcls
  have d1 := hcell 1 (by omega)
  obtain ⟨e1, f1⟩ := hb.at 1
  have lt1 : 1 < l.length := by omega
  have d2 := hcell 2 (by omega)
  obtain ⟨e2, f2⟩ := hb.at 2
  have lt2 : 2 < l.length := by omega
  have d3 := hcell 3 (by omega)
  obtain ⟨e3, f3⟩ := hb.at 3
  have lt3 : 3 < l.length := by omega
  have HC := Lib.hid hcell; clear hcell
  have HF := Lib.hid (show fstS l = none from no4 k0 hb.at (by omega))
  have hr : isRuneB ((((at0 l 0 - 240) * 64 + at0 l 1 - 128) * 64 + at0 l 2 - 128) * 64 + at0 l 3 - 128) = true := isRune_yes (by omega)
  go_enter Try.func19, Try.ntmps19
  go_wp2
  go_quiet (fail)
  go_wp2
  go_quiet (fail)
  go_wp2
  refine wp_loop_rounds 4 ?_
  repeat any_goals (rw [rounds_succ]; go_wp2_with (first | (go_at_call 44; refine (rune_any _ _).mono ?_; rintro e w1 ⟨rfl, rfl⟩) | (go_at_call 45; refine (one3_any _ _ (by omega) (by omega)).mono ?_; rintro e w1 ⟨rfl, hbe, n0, n1, n2⟩; have hbe2 := (below_drewN (Below.refl w.heap.size w) _).trans hbe; have D0 := (hbe.cell (p := ⟨x, o, none⟩) hx).trans d0; have D1 := (hbe.cell (p := ⟨x, o + 1, none⟩) hx).trans d1; have D2 := (hbe.cell (p := ⟨x, o + 2, none⟩) hx).trans d2; have D3 := (hbe.cell (p := ⟨x, o + 3, none⟩) hx).trans d3; simp only [World.heap_drewN] at n0 n1 n2; clear hbe)))
  all_goals go_ret3
  all_goals exact ⟨by rw [HF.out]; rfl, by repeat (first | assumption | exact Below.refl _ _ | refine below_drewN ?_ _ | refine Below.alloc ?_ (by simp) _ | refine Below.drew ?_)⟩
set_option maxHeartbeats 4000000 in
theorem ref_first_44 (x o : Nat) (ca : Nat) (l : List Int) (w : World) (hma : ca ≤ 9223372036854775807) (hla : l.length ≤ ca) (hb : Bytes l) (hcell : ∀ k, k < l.length → w.cell? ⟨x, o + k, none⟩ = some (.int .u8 (at0 l k))) (h0 : 0 < l.length)
    (hcls : 240 ≤ at0 l 0) (hl : 4 ≤ l.length) (h1 : 65536 ≤ (((at0 l 0 - 240) * 64 + at0 l 1 - 128) * 64 + at0 l 2 - 128) * 64 + at0 l 3 - 128) (h2 : (((at0 l 0 - 240) * 64 + at0 l 1 - 128) * 64 + at0 l 2 - 128) * 64 + at0 l 3 - 128 ≤ 1114111) (hR : (((at0 l 0 - 240) * 64 + at0 l 1 - 128) * 64 + at0 l 2 - 128) * 64 + at0 l 3 - 128 < 55296 ∨ 57343 < (((at0 l 0 - 240) * 64 + at0 l 1 - 128) * 64 + at0 l 2 - 128) * 64 + at0 l 3 - 128) :
    Calls Try.prog 19 #[.slice (some ⟨x, o, none⟩) l.length ca] w fun e w' => e = .returned (firstV (fstS l)) ∧ Below w.heap.size w w' := by
  have hne : ((l.length : Int) == 0) = false := beq_no (by omega)
  have d0 := hcell 0 h0
  rw [Nat.add_zero] at d0
  have hx : x < w.heap.size := World.block_lt_of_cell? w ⟨x, o, none⟩ d0
  obtain ⟨e0, f0⟩ := hb.at 0
  have k0 := hcls
  have d1 := hcell 1 (by omega)
  obtain ⟨e1, f1⟩ := hb.at 1
  have lt1 : 1 < l.length := by omega
  have d2 := hcell 2 (by omega)
  obtain ⟨e2, f2⟩ := hb.at 2
  have lt2 : 2 < l.length := by omega
  have d3 := hcell 3 (by omega)
  obtain ⟨e3, f3⟩ := hb.at 3
  have lt3 : 3 < l.length := by omega
  have HC := Lib.hid hcell; clear hcell
  have hr : isRuneB ((((at0 l 0 - 240) * 64 + at0 l 1 - 128) * 64 + at0 l 2 - 128) * 64 + at0 l 3 - 128) = true := isRune_yes (by omega)
  go_enter Try.func19, Try.ntmps19
  go_wp2
  go_quiet (fail)
  go_wp2
  go_quiet (fail)
  go_wp2
  refine wp_loop_rounds 4 ?_
  repeat any_goals (rw [rounds_succ]; go_wp2_with (first | (go_at_call 44; refine (rune_any _ _).mono ?_; rintro e w1 ⟨rfl, rfl⟩) | (go_at_call 45; refine (one4_any _ _ (by omega) (by omega)).mono ?_; rintro e w1 ⟨rfl, hbe, n0, n1, n2, n3⟩; have hbe2 := (below_drewN (Below.refl w.heap.size w) _).trans hbe; have D0 := (hbe.cell (p := ⟨x, o, none⟩) hx).trans d0; have D1 := (hbe.cell (p := ⟨x, o + 1, none⟩) hx).trans d1; have D2 := (hbe.cell (p := ⟨x, o + 2, none⟩) hx).trans d2; have D3 := (hbe.cell (p := ⟨x, o + 3, none⟩) hx).trans d3; simp only [World.heap_drewN] at n0 n1 n2 n3; clear hbe)))
  refine wp_loop_rounds 5 ?_
  repeat any_goals (first | (rw [rounds_succ]; go_wp2) | (go_quiet (fail); go_wp2))
  all_goals go_ret3
  all_goals refine ⟨?_, by repeat (first | assumption | exact Below.refl _ _ | refine below_drewN ?_ _ | refine Below.alloc ?_ (by simp) _ | refine Below.drew ?_)⟩
  all_goals simp only [bne_iff_ne, ne_eq, bne_eq_false_iff_eq] at *
  all_goals first
    | (rw [fst4_yes ⟨k0, (by omega)⟩ (by omega) (by omega) (by omega)]; rfl)
    | (rw [no4 k0 hb.at (by omega)]; rfl)
end Go.Proofs.Yticeogdagnogpaa
