/- The reference's Less. -/
import Derived.Test.YteocdjgdljfpdaaLessA
namespace Go.Proofs.Yteocdjgdljfpdaa
open Go.RowKit Go.Shelf
set_option linter.unusedVariables false

theorem lt_at (xs ys : List Int) (hx : Words xs) (hy : Words ys) (k : Nat) (hk : k < 4) (he : ∀ j, k < j → j < 4 → at0 xs j = at0 ys j) (hn : at0 xs k ≠ at0 ys k) : decide (at0 xs k < at0 ys k) = decide (valW xs 4 < valW ys 4) := by
  have x0 := hx.at 0; have x1 := hx.at 1; have x2 := hx.at 2; have x3 := hx.at 3
  have y0 := hy.at 0; have y1 := hy.at 1; have y2 := hy.at 2; have y3 := hy.at 3
  have e : (at0 xs k < at0 ys k) ↔ (valW xs 4 < valW ys 4) := by
    simp only [valW, Nat.reduceMul, Int.reducePow]
    obtain rfl | rfl | rfl | rfl : k = 0 ∨ k = 1 ∨ k = 2 ∨ k = 3 := by omega
    · have := he 1 (by omega) (by omega); have := he 2 (by omega) (by omega); have := he 3 (by omega) (by omega)
      omega
    · have := he 2 (by omega) (by omega); have := he 3 (by omega) (by omega)
      omega
    · have := he 3 (by omega) (by omega)
      omega
    · omega
  exact decide_eq_decide.2 e

set_option maxHeartbeats 400000 in
theorem ref_less_any (xs ys : List Int) (w : World) (hx : Words xs) (hy : Words ys) (hl : xs.length = 4) (hm : ys.length = 4) :
    Calls Try.prog 27 #[aggI .u64 xs, aggI .u64 ys] w fun e w' => e = .returned (.bool (decide (valW xs 4 < valW ys 4))) ∧ Below w.heap.size w w' := by
  go_enter Try.func27, Try.ntmps27
  go_wp2_with (first
    | (with_reducible refine at_op (o := ⟨some 2, _, _, _, _, _⟩) ?_; refine wpList_boxI rfl 35 _ rfl .u64 xs rfl ?_; intro w1 A1 s1 b1)
    | (with_reducible refine at_op (o := ⟨some 3, _, _, _, _, _⟩) ?_; refine wpList_boxI rfl 35 _ rfl .u64 ys rfl ?_; intro w2 B2 s2 b2; have A2 := A1.below b2))
  go_loopw [5] (fun i wr => ∃ (k : Nat), k ≤ 4 ∧ i = .int .i64 ((k : Int) - 1) ∧ (∀ j, k ≤ j → j < 4 → at0 xs j = at0 ys j) ∧ Arr .u64 wr w.heap.size xs ∧ Arr .u64 wr w1.heap.size ys ∧ Below w.heap.size w wr) (fun i _ => (intOf i + 1).toNat)
  case atStart => exact ⟨4, by omega, rfl, fun j h1 h2 => by omega, A2, B2, below_then b1 b2⟩
  case round =>
    obtain ⟨k, hk, rfl, he, A, B, hbel⟩ := hrel
    cases k with
    | zero =>
      go_wp2
      go_ret
      refine ⟨?_, hbel⟩
      have h0 := he 0 (by omega) (by omega); have h1 := he 1 (by omega) (by omega); have h2 := he 2 (by omega) (by omega); have h3 := he 3 (by omega) (by omega)
      have e : valW xs 4 = valW ys 4 := by simp only [valW, h0, h1, h2, h3]
      rw [e]
      simp
    | succ k =>
      have c0 := A.cell (k := k) (by omega)
      have c1 := B.cell (k := k) (by omega)
      simp only [Int.natCast_add, Int.natCast_one, Int.add_sub_cancel]
      go_wp2
      go_quiet (fail)
      go_wp2
      · have hne : (at0 xs k != at0 ys k) = true := by assumption
        have hne' : at0 xs k ≠ at0 ys k := by simpa using hne
        go_quiet (fail)
        go_wp2
        go_ret
        refine ⟨?_, below_drewN (below_drewN hbel _) _⟩
        have e := lt_at xs ys hx hy k (by omega) (fun j h1 h2 => he j (by omega) h2) hne'
        exact congrArg (fun b => Ending.returned (Value.bool b)) e
      · have hne : (at0 xs k != at0 ys k) = false := by assumption
        have hne' : at0 xs k = at0 ys k := by simpa using hne
        refine ⟨⟨k, by omega, rfl, fun j h1 h2 => ?_, A.drewN _, B.drewN _, below_drewN hbel _⟩, by simp [intOf]⟩
        by_cases e : j = k
        · rw [e]; exact hne'
        · exact he j (by omega) h2

/-- Is it below the order? -/
def ltL (za : List Int) : Bool := decide (valW (loadS za 4) 4 < valW ordL 4)
theorem loadS_words (za : List Int) (hb : Bytes za) (n : Nat) : Words (loadS za n) := by
  intro x hx
  simp only [loadS, List.mem_map] at hx
  obtain ⟨k, _, rfl⟩ := hx
  have := partW_lt za hb k 8 (Nat.le_refl _)
  simp only [Nat.reduceMul, Int.reducePow] at this
  exact this

set_option maxHeartbeats 400000 in
theorem right_any (za : List Int) (w : World) (hb : Bytes za) (hl : za.length = 32) :
    Calls Try.prog 10 #[aggI .u8 za] w fun e w' => e = .returned (.bool (ltL za)) ∧ Below w.heap.size w w' := by
  have hbr := brw_iff (loadS za 4) ordL (loadS_words za hb 4) ordL_words 4
  have hbb := brw_bit (loadS za 4) ordL 4
  generalize hB : brw (loadS za 4) ordL 4 = bb at *
  have HB := Lib.hid hbr; clear hbr
  go_enter Try.func10, Try.ntmps10
  go_wp2_with (first
    | (with_reducible refine at_op (o := ⟨some 1, _, _, _, _, _⟩) ?_; refine wpList_boxI rfl 23 _ rfl .u8 za rfl ?_; intro w1 A1 s1 b1)
    | (with_reducible refine at_op (o := ⟨some 6, _, _, _, _, _⟩) ?_; refine wpList_loadI rfl 23 _ rfl 32 5 und_a32 info_a32 w.heap.size rfl .u8 za A1 hl ?_)
    | (go_at_call 24; refine (load_any za _ hb hl).mono ?_; rintro e w2 ⟨rfl, b2⟩)
    | (go_at_call 26; refine (order_any _).mono ?_; rintro e w3 ⟨rfl, b3⟩)
    | (go_at_call 25; refine (less_any _ _ _ (loadS_words za hb 4) ordL_words (by simp [loadS]) rfl).mono ?_; rintro e w4 ⟨rfl, b4⟩; rw [hB])
    | (with_reducible refine at_op (o := ⟨some 3, _, _, _, _, _⟩) ?_; refine wpList_allocI rfl 39 rfl .u64 4 zero_short ?_; intro w5 R5 s5 b5)
    | (with_reducible refine at_op (o := ⟨_, .store 39 _ _, _, _, _, _⟩) ?_; refine wpList_storeI rfl 39 _ _ rfl 4 info_short w4.heap.size rfl .u64 _ (subS (loadS za 4) ordL 4) rfl R5 (by simp) (by simp [subS]) ?_; intro A9))
  go_ret
  have b14 := below_then (below_then (below_then (below_then b1 b2) b3) b4) b5
  refine ⟨?_, Below.setRow b14 (by have := b1.size; have := b2.size; have := b3.size; have := b4.size; omega) _⟩
  have hbr := HB.out
  show Ending.returned (Value.bool (bb == 1)) = _
  simp only [ltL]
  rw [hbr]
  split <;> simp_all

set_option maxHeartbeats 400000 in
theorem ref_right_any (za : List Int) (w : World) (hb : Bytes za) (hl : za.length = 32) :
    Calls Try.prog 11 #[aggI .u8 za] w fun e w' => e = .returned (.bool (ltL za)) ∧ Below w.heap.size w w' := by
  go_enter Try.func11, Try.ntmps11
  go_wp2_with (first
    | (with_reducible refine at_op (o := ⟨some 1, _, _, _, _, _⟩) ?_; refine wpList_boxI rfl 23 _ rfl .u8 za rfl ?_; intro w1 A1 s1 b1)
    | (with_reducible refine at_op (o := ⟨some 3, _, _, _, _, _⟩) ?_; refine wpList_loadI rfl 23 _ rfl 32 5 und_a32 info_a32 w.heap.size rfl .u8 za A1 hl ?_)
    | (go_at_call 28; refine (ref_load_any za _ hb hl).mono ?_; rintro e w2 ⟨rfl, b2⟩)
    | (go_at_call 20; refine (ref_L_any _).mono ?_; rintro e w3 ⟨rfl, b3⟩)
    | (go_at_call 27; refine (ref_less_any _ _ _ (loadS_words za hb 4) ordL_words (by simp [loadS]) rfl).mono ?_; rintro e w4 ⟨rfl, b4⟩))
  go_ret
  exact ⟨rfl, below_then (below_then (below_then b1 b2) b3) b4⟩
end Go.Proofs.Yteocdjgdljfpdaa
