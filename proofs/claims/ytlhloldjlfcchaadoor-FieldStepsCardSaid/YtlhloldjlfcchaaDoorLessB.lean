/- The reference's Less. -/
--@optional
import Derived.Test.YtlhloldjlfcchaaDoorLessA
namespace Go.Proofs.YtlhloldjlfcchaaDoor
open Go.RowKit Go.Shelf
set_option linter.unusedVariables false

theorem lt_at (xs ys : List Int) (hx : Words xs) (hy : Words ys) (k : Nat) (hk : k < 4) (he : ∀ j, k < j → j < 4 → at0 xs j = at0 ys j) (hn : at0 xs k ≠ at0 ys k) : decide (at0 xs k < at0 ys k) = decide (valW xs 4 < valW ys 4) := by
  have x0 := hx.at 0; have x1 := hx.at 1; have x2 := hx.at 2; have x3 := hx.at 3
  have y0 := hy.at 0; have y1 := hy.at 1; have y2 := hy.at 2; have y3 := hy.at 3
  have e : (at0 xs k < at0 ys k) ↔ (valW xs 4 < valW ys 4) := by
    simp only [valW, Nat.reduceMul, Int.reducePow]
    obtain rfl | rfl | rfl | rfl : k = 0 ∨ k = 1 ∨ k = 2 ∨ k = 3 := by omega
    · have := he 1 (by omega) (by omega); have := he 2 (by omega) (by omega); have := he 3 (by omega) (by omega)
      omega
    · have := he 2 (by omega) (by omega); have := he 3 (by omega) (by omega)
      omega
    · have := he 3 (by omega) (by omega)
      omega
    · omega
  exact decide_eq_decide.2 e

set_option maxHeartbeats 400000 in
theorem ref_less_any (xs ys : List Int) (w : World) (hx : Words xs) (hy : Words ys) (hl : xs.length = 4) (hm : ys.length = 4) :
    Calls Tryd.prog 37 #[aggI .u64 xs, aggI .u64 ys] w fun e w' => e = .returned (.bool (decide (valW xs 4 < valW ys 4))) ∧ Below w.heap.size w w' := by
  go_enter Tryd.func37, Tryd.ntmps37
  go_wp2_with (first
    | (with_reducible refine at_op (o := ⟨some 2, _, _, _, _, _⟩) ?_; refine wpList_boxI rfl 35 _ rfl .u64 xs rfl ?_; intro w1 A1 s1 b1)
    | (with_reducible refine at_op (o := ⟨some 3, _, _, _, _, _⟩) ?_; refine wpList_boxI rfl 35 _ rfl .u64 ys rfl ?_; intro w2 B2 s2 b2; have A2 := A1.below b2))
  go_loopw [5] (fun i wr => ∃ (k : Nat), k ≤ 4 ∧ i = .int .i64 ((k : Int) - 1) ∧ (∀ j, k ≤ j → j < 4 → at0 xs j = at0 ys j) ∧ Arr .u64 wr w.heap.size xs ∧ Arr .u64 wr w1.heap.size ys ∧ Below w.heap.size w wr) (fun i _ => (intOf i + 1).toNat)
  case atStart => exact ⟨4, by omega, rfl, fun j h1 h2 => by omega, A2, B2, below_then b1 b2⟩
  case round =>
    obtain ⟨k, hk, rfl, he, A, B, hbel⟩ := hrel
    cases k with
    | zero =>
      go_wp2
      go_ret
      refine ⟨?_, hbel⟩
      have h0 := he 0 (by omega) (by omega); have h1 := he 1 (by omega) (by omega); have h2 := he 2 (by omega) (by omega); have h3 := he 3 (by omega) (by omega)
      have e : valW xs 4 = valW ys 4 := by simp only [valW, h0, h1, h2, h3]
      rw [e]
      simp
    | succ k =>
      have c0 := A.cell (k := k) (by omega)
      have c1 := B.cell (k := k) (by omega)
      simp only [Int.natCast_add, Int.natCast_one, Int.add_sub_cancel]
      go_wp2
      go_quiet (fail)
      go_wp2
      · have hne : (at0 xs k != at0 ys k) = true := by assumption
        have hne' : at0 xs k ≠ at0 ys k := by simpa using hne
        go_quiet (fail)
        go_wp2
        go_ret
        refine ⟨?_, below_drewN (below_drewN hbel _) _⟩
        have e := lt_at xs ys hx hy k (by omega) (fun j h1 h2 => he j (by omega) h2) hne'
        exact congrArg (fun b => Ending.returned (Value.bool b)) e
      · have hne : (at0 xs k != at0 ys k) = false := by assumption
        have hne' : at0 xs k = at0 ys k := by simpa using hne
        refine ⟨⟨k, by omega, rfl, fun j h1 h2 => ?_, A.drewN _, B.drewN _, below_drewN hbel _⟩, by simp [intOf]⟩
        by_cases e : j = k
        · rw [e]; exact hne'
        · exact he j (by omega) h2

/-- Is it below the order? -/
def ltL (za : List Int) : Bool := decide (valW (loadS za 4) 4 < valW ordL 4)
theorem loadS_words (za : List Int) (hb : Bytes za) (n : Nat) : Words (loadS za n) := by
  intro x hx
  simp only [loadS, List.mem_map] at hx
  obtain ⟨k, _, rfl⟩ := hx
  have := partW_lt za hb k 8 (Nat.le_refl _)
  simp only [Nat.reduceMul, Int.reducePow] at this
  exact this

end Go.Proofs.YtlhloldjlfcchaaDoor
