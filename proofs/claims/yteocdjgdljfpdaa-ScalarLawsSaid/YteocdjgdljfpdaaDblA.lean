/- Package scalar's doubled. -/
import Derived.Test.YteocdjgdljfpdaaLessB
namespace Go.Proofs.Yteocdjgdljfpdaa
open Go.RowKit Go.Shelf
set_option linter.unusedVariables false

def dblS (xs : List Int) (b : Int) : List Int :=
  [at0 xs 0 * 2 % 18446744073709551616 + b, at0 xs 1 * 2 % 18446744073709551616 + at0 xs 0 / 9223372036854775808, at0 xs 2 * 2 % 18446744073709551616 + at0 xs 1 / 9223372036854775808, at0 xs 3 * 2 % 18446744073709551616 + at0 xs 2 / 9223372036854775808]
theorem dbl_or (x b : Int) (hb : 0 ≤ b ∧ b ≤ 1) : bits BinOp.or IntKind.u64 (IntKind.u64.wrap (x * 2)) b = x * 2 % 18446744073709551616 + b := by
  rw [wrap_u64_eq]
  exact u64_or_add _ b 1 (by omega) (by omega) (by omega) hb.1 (by omega) (by omega)
theorem dblS_words (xs : List Int) (hx : Words xs) (b : Int) (hb : 0 ≤ b ∧ b ≤ 1) : Words (dblS xs b) := by
  have x0 := hx.at 0; have x1 := hx.at 1; have x2 := hx.at 2; have x3 := hx.at 3
  intro x hx
  simp only [dblS, List.mem_cons, List.not_mem_nil, or_false] at hx
  omega
theorem val_dblS (xs : List Int) (hx : Words xs) (b : Int) (hb : 0 ≤ b ∧ b ≤ 1) (hs : valW xs 4 < 2 ^ 255) : valW (dblS xs b) 4 = 2 * valW xs 4 + b := by
  have x0 := hx.at 0; have x1 := hx.at 1; have x2 := hx.at 2; have x3 := hx.at 3
  have e0 : at0 (dblS xs b) 0 = at0 xs 0 * 2 % 18446744073709551616 + b := rfl
  have e1 : at0 (dblS xs b) 1 = at0 xs 1 * 2 % 18446744073709551616 + at0 xs 0 / 9223372036854775808 := rfl
  have e2 : at0 (dblS xs b) 2 = at0 xs 2 * 2 % 18446744073709551616 + at0 xs 1 / 9223372036854775808 := rfl
  have e3 : at0 (dblS xs b) 3 = at0 xs 3 * 2 % 18446744073709551616 + at0 xs 2 / 9223372036854775808 := rfl
  simp only [valW, Nat.reduceMul, Int.reducePow, e0, e1, e2, e3] at hs ⊢
  omega

set_option maxHeartbeats 400000 in
theorem doubled_any (xs : List Int) (b : Int) (w : World) (hx : Words xs) (hl : xs.length = 4) (hb : 0 ≤ b ∧ b ≤ 1) :
    Calls Try.prog 33 #[aggI .u64 xs, .int .u64 b] w fun e w' => e = .returned (aggI .u64 (dblS xs b)) ∧ Below w.heap.size w w' := by
  have x0 := hx.at 0; have x1 := hx.at 1; have x2 := hx.at 2; have x3 := hx.at 3
  have o0 := dbl_or (at0 xs 0) b hb
  have o1 := dbl_or (at0 xs 1) (at0 xs 0 / 9223372036854775808) (by omega)
  have o2 := dbl_or (at0 xs 2) (at0 xs 1 / 9223372036854775808) (by omega)
  have o3 := dbl_or (at0 xs 3) (at0 xs 2 / 9223372036854775808) (by omega)
  go_enter Try.func33, Try.ntmps33
  go_wp2_with (first
    | (with_reducible refine at_op (o := ⟨some 2, _, _, _, _, _⟩) ?_; refine wpList_boxI rfl 39 _ rfl .u64 xs rfl ?_; intro w1 A1 s1 b1)
    | (with_reducible refine at_op (o := ⟨some 4, _, _, _, _, _⟩) ?_; refine wpList_allocI rfl 39 rfl .u64 4 zero_short ?_; intro w2 R s2 b2; have A := A1.below b2; have c0 := A.cell (k := 0) (by omega); have c1 := A.cell (k := 1) (by omega); have c2 := A.cell (k := 2) (by omega); have c3 := A.cell (k := 3) (by omega))
    | (with_reducible refine at_op (o := ⟨_, .store 39 _ _, _, _, _, _⟩) ?_; refine wpList_storeI rfl 39 _ _ rfl 4 info_short w1.heap.size rfl .u64 _ (dblS xs b) rfl R (by simp) rfl ?_; intro A9))
  refine bodyPost_ret (results_cellI rfl _ 4 33 und_short info_short w1.heap.size rfl .u64 _ A9 rfl) rfl ?_
  exact ⟨rfl, Below.setRow (below_then b1 b2) (by omega) _⟩
end Go.Proofs.Yteocdjgdljfpdaa
