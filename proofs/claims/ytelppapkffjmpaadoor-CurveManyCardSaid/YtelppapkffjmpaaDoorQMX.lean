/- Merged: Package scalar's doubled. The law's wide: 32 bytes as 64. Package scalar's cut. Package scalar's cut, where the number is not below the order. Package scalar's cut: its contract. Package scalar's cut: what its number is. Package scalar's reduced: what is left of a number of eight words. Numbers of words: products, word by word. Package scalar's times: a product, and a number more, as eight words. The contracts of layers 8 (the reference's) and 9, said by numbers. Package scalar's MulAdd. -/
import Derived.Deep.RegionHeld3
import Derived.Test.YtelppapkffjmpaaDoorShelf
import Derived.Test.YtelppapkffjmpaaDoorQMF
import Derived.Test.YtelppapkffjmpaaDoorQMB
import Derived.Test.YtelppapkffjmpaaDoorQMA
section
--@optional
namespace Go.Proofs.YtelppapkffjmpaaDoor
open Go.RowKit Go.Shelf
set_option linter.unusedVariables false

def dblS (xs : List Int) (b : Int) : List Int :=
  [at0 xs 0 * 2 % 18446744073709551616 + b, at0 xs 1 * 2 % 18446744073709551616 + at0 xs 0 / 9223372036854775808, at0 xs 2 * 2 % 18446744073709551616 + at0 xs 1 / 9223372036854775808, at0 xs 3 * 2 % 18446744073709551616 + at0 xs 2 / 9223372036854775808]
theorem dbl_or (x b : Int) (hb : 0 ≤ b ∧ b ≤ 1) : bits BinOp.or IntKind.u64 (IntKind.u64.wrap (x * 2)) b = x * 2 % 18446744073709551616 + b := by
  rw [wrap_u64_eq]
  exact u64_or_add _ b 1 (by omega) (by omega) (by omega) hb.1 (by omega) (by omega)
theorem dblS_words (xs : List Int) (hx : Words xs) (b : Int) (hb : 0 ≤ b ∧ b ≤ 1) : Words (dblS xs b) := by
  have x0 := hx.at 0; have x1 := hx.at 1; have x2 := hx.at 2; have x3 := hx.at 3
  intro x hx
  simp only [dblS, List.mem_cons, List.not_mem_nil, or_false] at hx
  omega
theorem val_dblS (xs : List Int) (hx : Words xs) (b : Int) (hb : 0 ≤ b ∧ b ≤ 1) (hs : valW xs 4 < 2 ^ 255) : valW (dblS xs b) 4 = 2 * valW xs 4 + b := by
  have x0 := hx.at 0; have x1 := hx.at 1; have x2 := hx.at 2; have x3 := hx.at 3
  have e0 : at0 (dblS xs b) 0 = at0 xs 0 * 2 % 18446744073709551616 + b := rfl
  have e1 : at0 (dblS xs b) 1 = at0 xs 1 * 2 % 18446744073709551616 + at0 xs 0 / 9223372036854775808 := rfl
  have e2 : at0 (dblS xs b) 2 = at0 xs 2 * 2 % 18446744073709551616 + at0 xs 1 / 9223372036854775808 := rfl
  have e3 : at0 (dblS xs b) 3 = at0 xs 3 * 2 % 18446744073709551616 + at0 xs 2 / 9223372036854775808 := rfl
  simp only [valW, Nat.reduceMul, Int.reducePow, e0, e1, e2, e3] at hs ⊢
  omega

set_option maxHeartbeats 400000 in
theorem doubled_any (xs : List Int) (b : Int) (w : World) (hx : Words xs) (hl : xs.length = 4) (hb : 0 ≤ b ∧ b ≤ 1) :
    Calls Tryd.prog 79 #[aggI .u64 xs, .int .u64 b] w fun e w' => e = .returned (aggI .u64 (dblS xs b)) ∧ Below w.heap.size w w' := by
  have x0 := hx.at 0; have x1 := hx.at 1; have x2 := hx.at 2; have x3 := hx.at 3
  have o0 := dbl_or (at0 xs 0) b hb
  have o1 := dbl_or (at0 xs 1) (at0 xs 0 / 9223372036854775808) (by omega)
  have o2 := dbl_or (at0 xs 2) (at0 xs 1 / 9223372036854775808) (by omega)
  have o3 := dbl_or (at0 xs 3) (at0 xs 2 / 9223372036854775808) (by omega)
  go_enter Tryd.func79, Tryd.ntmps79
  go_wp2_with (first
    | (with_reducible refine at_n 2 ?_; refine wpList_boxI rfl 66 _ rfl .u64 xs rfl ?_; intro w1 A1 s1 b1)
    | (with_reducible refine at_n 4 ?_; refine wpList_allocI rfl 66 rfl .u64 4 zero_short ?_; intro w2 R s2 b2; have A := A1.below b2; have c0 := A.cell (k := 0) (by omega); have c1 := A.cell (k := 1) (by omega); have c2 := A.cell (k := 2) (by omega); have c3 := A.cell (k := 3) (by omega))
    | (with_reducible refine at_op (o := ⟨_, .store 66 _ _, _, _, _, _⟩) ?_; refine wpList_storeI rfl 66 _ _ rfl 4 info_short w1.heap.size rfl .u64 _ (dblS xs b) rfl R (by simp) rfl ?_; intro A9))
  refine bodyPost_ret (results_cellI rfl _ 4 34 und_short info_short w1.heap.size rfl .u64 _ A9 rfl) rfl ?_
  exact ⟨rfl, Below.setRow (below_then b1 b2) (by omega) _⟩
end Go.Proofs.YtelppapkffjmpaaDoor
end
section
--@optional
namespace Go.Proofs.YtelppapkffjmpaaDoor
open Go.RowKit
set_option linter.unusedVariables false
set_option maxRecDepth 4000

end Go.Proofs.YtelppapkffjmpaaDoor
end
section
--@optional
namespace Go.Proofs.YtelppapkffjmpaaDoor
open Go.RowKit Go.Shelf
set_option linter.unusedVariables false

theorem at_block {W w1 : World} (hb : Below W.heap.size W w1) (b o : Nat) (h : b < W.heap.size) : w1.cell? ⟨b, o, none⟩ = W.cell? ⟨b, o, none⟩ ∧ w1.frozen? ⟨b, o, none⟩ = W.frozen? ⟨b, o, none⟩ :=
  ⟨hb.cell (p := ⟨b, o, none⟩) h, hb.frozen (p := ⟨b, o, none⟩) h⟩
/-- The number's block, and one of noughts, all of it free. -/
def CutS (x0 x1 x2 x3 : Int) (B C : Nat) (v : World) : Prop := (v.cell? ⟨B, 0, none⟩ = some (.int .u64 x0) ∧ v.cell? ⟨B, 1, none⟩ = some (.int .u64 x1) ∧ v.cell? ⟨B, 2, none⟩ = some (.int .u64 x2) ∧ v.cell? ⟨B, 3, none⟩ = some (.int .u64 x3)) ∧ (v.cell? ⟨C, 0, none⟩ = some (.int .u64 0) ∧ v.cell? ⟨C, 1, none⟩ = some (.int .u64 0) ∧ v.cell? ⟨C, 2, none⟩ = some (.int .u64 0) ∧ v.cell? ⟨C, 3, none⟩ = some (.int .u64 0)) ∧ (v.frozen? ⟨C, 0, none⟩ = false ∧ v.frozen? ⟨C, 1, none⟩ = false ∧ v.frozen? ⟨C, 2, none⟩ = false ∧ v.frozen? ⟨C, 3, none⟩ = false)
theorem CutS.below {x0 x1 x2 x3 : Int} {B C : Nat} {v v' : World} (hb : Below v.heap.size v v') (hB : B < v.heap.size) (hC : C < v.heap.size) (h : CutS x0 x1 x2 x3 B C v) : CutS x0 x1 x2 x3 B C v' := by
  have c := fun k => (at_block hb B k hB).1
  have z := fun k => (at_block hb C k hC).1
  have f := fun k => (at_block hb C k hC).2
  unfold CutS at *
  simp only [c, z, f]
  exact h
/-- What holds all through the region. -/
def CutR (x0 x1 x2 x3 : Int) (B C : Nat) (W v : World) : Prop := (CutS x0 x1 x2 x3 B C W ∧ B < W.heap.size ∧ C < W.heap.size) ∧ Below W.heap.size W v
theorem CutR.out {x0 x1 x2 x3 : Int} {B C : Nat} {W v : World} (h : CutR x0 x1 x2 x3 B C W v) : ((v.cell? ⟨B, 0, none⟩ = some (.int .u64 x0) ∧ v.cell? ⟨B, 1, none⟩ = some (.int .u64 x1) ∧ v.cell? ⟨B, 2, none⟩ = some (.int .u64 x2) ∧ v.cell? ⟨B, 3, none⟩ = some (.int .u64 x3)) ∧ (v.cell? ⟨C, 0, none⟩ = some (.int .u64 0) ∧ v.cell? ⟨C, 1, none⟩ = some (.int .u64 0) ∧ v.cell? ⟨C, 2, none⟩ = some (.int .u64 0) ∧ v.cell? ⟨C, 3, none⟩ = some (.int .u64 0)) ∧ (v.frozen? ⟨C, 0, none⟩ = false ∧ v.frozen? ⟨C, 1, none⟩ = false ∧ v.frozen? ⟨C, 2, none⟩ = false ∧ v.frozen? ⟨C, 3, none⟩ = false)) ∧ CutR x0 x1 x2 x3 B C W v := ⟨CutS.below h.2 h.1.2.1 h.1.2.2 h.1.1, h⟩
theorem CutR.then {x0 x1 x2 x3 : Int} {B C : Nat} {W v v' : World} (hb : Below v.heap.size v v') (h : ((v.cell? ⟨B, 0, none⟩ = some (.int .u64 x0) ∧ v.cell? ⟨B, 1, none⟩ = some (.int .u64 x1) ∧ v.cell? ⟨B, 2, none⟩ = some (.int .u64 x2) ∧ v.cell? ⟨B, 3, none⟩ = some (.int .u64 x3)) ∧ (v.cell? ⟨C, 0, none⟩ = some (.int .u64 0) ∧ v.cell? ⟨C, 1, none⟩ = some (.int .u64 0) ∧ v.cell? ⟨C, 2, none⟩ = some (.int .u64 0) ∧ v.cell? ⟨C, 3, none⟩ = some (.int .u64 0)) ∧ (v.frozen? ⟨C, 0, none⟩ = false ∧ v.frozen? ⟨C, 1, none⟩ = false ∧ v.frozen? ⟨C, 2, none⟩ = false ∧ v.frozen? ⟨C, 3, none⟩ = false)) ∧ CutR x0 x1 x2 x3 B C W v) : ((v'.cell? ⟨B, 0, none⟩ = some (.int .u64 x0) ∧ v'.cell? ⟨B, 1, none⟩ = some (.int .u64 x1) ∧ v'.cell? ⟨B, 2, none⟩ = some (.int .u64 x2) ∧ v'.cell? ⟨B, 3, none⟩ = some (.int .u64 x3)) ∧ (v'.cell? ⟨C, 0, none⟩ = some (.int .u64 0) ∧ v'.cell? ⟨C, 1, none⟩ = some (.int .u64 0) ∧ v'.cell? ⟨C, 2, none⟩ = some (.int .u64 0) ∧ v'.cell? ⟨C, 3, none⟩ = some (.int .u64 0)) ∧ (v'.frozen? ⟨C, 0, none⟩ = false ∧ v'.frozen? ⟨C, 1, none⟩ = false ∧ v'.frozen? ⟨C, 2, none⟩ = false ∧ v'.frozen? ⟨C, 3, none⟩ = false)) ∧ CutR x0 x1 x2 x3 B C W v' := CutR.out ⟨h.2.1, below_then h.2.2 hb⟩
theorem CutR.drew {x0 x1 x2 x3 : Int} {B C : Nat} {W v : World} (h : ((v.cell? ⟨B, 0, none⟩ = some (.int .u64 x0) ∧ v.cell? ⟨B, 1, none⟩ = some (.int .u64 x1) ∧ v.cell? ⟨B, 2, none⟩ = some (.int .u64 x2) ∧ v.cell? ⟨B, 3, none⟩ = some (.int .u64 x3)) ∧ (v.cell? ⟨C, 0, none⟩ = some (.int .u64 0) ∧ v.cell? ⟨C, 1, none⟩ = some (.int .u64 0) ∧ v.cell? ⟨C, 2, none⟩ = some (.int .u64 0) ∧ v.cell? ⟨C, 3, none⟩ = some (.int .u64 0)) ∧ (v.frozen? ⟨C, 0, none⟩ = false ∧ v.frozen? ⟨C, 1, none⟩ = false ∧ v.frozen? ⟨C, 2, none⟩ = false ∧ v.frozen? ⟨C, 3, none⟩ = false)) ∧ CutR x0 x1 x2 x3 B C W v) : ((v.drew.cell? ⟨B, 0, none⟩ = some (.int .u64 x0) ∧ v.drew.cell? ⟨B, 1, none⟩ = some (.int .u64 x1) ∧ v.drew.cell? ⟨B, 2, none⟩ = some (.int .u64 x2) ∧ v.drew.cell? ⟨B, 3, none⟩ = some (.int .u64 x3)) ∧ (v.drew.cell? ⟨C, 0, none⟩ = some (.int .u64 0) ∧ v.drew.cell? ⟨C, 1, none⟩ = some (.int .u64 0) ∧ v.drew.cell? ⟨C, 2, none⟩ = some (.int .u64 0) ∧ v.drew.cell? ⟨C, 3, none⟩ = some (.int .u64 0)) ∧ (v.drew.frozen? ⟨C, 0, none⟩ = false ∧ v.drew.frozen? ⟨C, 1, none⟩ = false ∧ v.drew.frozen? ⟨C, 2, none⟩ = false ∧ v.drew.frozen? ⟨C, 3, none⟩ = false)) ∧ CutR x0 x1 x2 x3 B C W v.drew := CutR.then (Below.refl _ _).drew h
theorem CutR.alloc {x0 x1 x2 x3 : Int} {B C : Nat} {W v : World} {o : Obj} (h : ((v.cell? ⟨B, 0, none⟩ = some (.int .u64 x0) ∧ v.cell? ⟨B, 1, none⟩ = some (.int .u64 x1) ∧ v.cell? ⟨B, 2, none⟩ = some (.int .u64 x2) ∧ v.cell? ⟨B, 3, none⟩ = some (.int .u64 x3)) ∧ (v.cell? ⟨C, 0, none⟩ = some (.int .u64 0) ∧ v.cell? ⟨C, 1, none⟩ = some (.int .u64 0) ∧ v.cell? ⟨C, 2, none⟩ = some (.int .u64 0) ∧ v.cell? ⟨C, 3, none⟩ = some (.int .u64 0)) ∧ (v.frozen? ⟨C, 0, none⟩ = false ∧ v.frozen? ⟨C, 1, none⟩ = false ∧ v.frozen? ⟨C, 2, none⟩ = false ∧ v.frozen? ⟨C, 3, none⟩ = false)) ∧ CutR x0 x1 x2 x3 B C W v) : (((v.alloc o).cell? ⟨B, 0, none⟩ = some (.int .u64 x0) ∧ (v.alloc o).cell? ⟨B, 1, none⟩ = some (.int .u64 x1) ∧ (v.alloc o).cell? ⟨B, 2, none⟩ = some (.int .u64 x2) ∧ (v.alloc o).cell? ⟨B, 3, none⟩ = some (.int .u64 x3)) ∧ ((v.alloc o).cell? ⟨C, 0, none⟩ = some (.int .u64 0) ∧ (v.alloc o).cell? ⟨C, 1, none⟩ = some (.int .u64 0) ∧ (v.alloc o).cell? ⟨C, 2, none⟩ = some (.int .u64 0) ∧ (v.alloc o).cell? ⟨C, 3, none⟩ = some (.int .u64 0)) ∧ ((v.alloc o).frozen? ⟨C, 0, none⟩ = false ∧ (v.alloc o).frozen? ⟨C, 1, none⟩ = false ∧ (v.alloc o).frozen? ⟨C, 2, none⟩ = false ∧ (v.alloc o).frozen? ⟨C, 3, none⟩ = false)) ∧ CutR x0 x1 x2 x3 B C W (v.alloc o) := CutR.then ((Below.refl _ _).alloc (Nat.le_refl _) _) h
theorem CutR.allocDrew {x0 x1 x2 x3 : Int} {B C : Nat} {W v : World} {o : Obj} (h : ((v.cell? ⟨B, 0, none⟩ = some (.int .u64 x0) ∧ v.cell? ⟨B, 1, none⟩ = some (.int .u64 x1) ∧ v.cell? ⟨B, 2, none⟩ = some (.int .u64 x2) ∧ v.cell? ⟨B, 3, none⟩ = some (.int .u64 x3)) ∧ (v.cell? ⟨C, 0, none⟩ = some (.int .u64 0) ∧ v.cell? ⟨C, 1, none⟩ = some (.int .u64 0) ∧ v.cell? ⟨C, 2, none⟩ = some (.int .u64 0) ∧ v.cell? ⟨C, 3, none⟩ = some (.int .u64 0)) ∧ (v.frozen? ⟨C, 0, none⟩ = false ∧ v.frozen? ⟨C, 1, none⟩ = false ∧ v.frozen? ⟨C, 2, none⟩ = false ∧ v.frozen? ⟨C, 3, none⟩ = false)) ∧ CutR x0 x1 x2 x3 B C W v) : (((v.alloc o).drew.cell? ⟨B, 0, none⟩ = some (.int .u64 x0) ∧ (v.alloc o).drew.cell? ⟨B, 1, none⟩ = some (.int .u64 x1) ∧ (v.alloc o).drew.cell? ⟨B, 2, none⟩ = some (.int .u64 x2) ∧ (v.alloc o).drew.cell? ⟨B, 3, none⟩ = some (.int .u64 x3)) ∧ ((v.alloc o).drew.cell? ⟨C, 0, none⟩ = some (.int .u64 0) ∧ (v.alloc o).drew.cell? ⟨C, 1, none⟩ = some (.int .u64 0) ∧ (v.alloc o).drew.cell? ⟨C, 2, none⟩ = some (.int .u64 0) ∧ (v.alloc o).drew.cell? ⟨C, 3, none⟩ = some (.int .u64 0)) ∧ ((v.alloc o).drew.frozen? ⟨C, 0, none⟩ = false ∧ (v.alloc o).drew.frozen? ⟨C, 1, none⟩ = false ∧ (v.alloc o).drew.frozen? ⟨C, 2, none⟩ = false ∧ (v.alloc o).drew.frozen? ⟨C, 3, none⟩ = false)) ∧ CutR x0 x1 x2 x3 B C W (v.alloc o).drew := CutR.drew (CutR.alloc h)
theorem CutR.store {x0 x1 x2 x3 : Int} {B C n : Nat} {W v : World} {y0 y1 y2 y3 : Value} (hn : W.heap.size ≤ n) (h : ((v.cell? ⟨B, 0, none⟩ = some (.int .u64 x0) ∧ v.cell? ⟨B, 1, none⟩ = some (.int .u64 x1) ∧ v.cell? ⟨B, 2, none⟩ = some (.int .u64 x2) ∧ v.cell? ⟨B, 3, none⟩ = some (.int .u64 x3)) ∧ (v.cell? ⟨C, 0, none⟩ = some (.int .u64 0) ∧ v.cell? ⟨C, 1, none⟩ = some (.int .u64 0) ∧ v.cell? ⟨C, 2, none⟩ = some (.int .u64 0) ∧ v.cell? ⟨C, 3, none⟩ = some (.int .u64 0)) ∧ (v.frozen? ⟨C, 0, none⟩ = false ∧ v.frozen? ⟨C, 1, none⟩ = false ∧ v.frozen? ⟨C, 2, none⟩ = false ∧ v.frozen? ⟨C, 3, none⟩ = false)) ∧ CutR x0 x1 x2 x3 B C W v) :
    ((((((v.setCell ⟨n, 0, none⟩ y0).setCell ⟨n, 1, none⟩ y1).setCell ⟨n, 2, none⟩ y2).setCell ⟨n, 3, none⟩ y3).cell? ⟨B, 0, none⟩ = some (.int .u64 x0) ∧ ((((v.setCell ⟨n, 0, none⟩ y0).setCell ⟨n, 1, none⟩ y1).setCell ⟨n, 2, none⟩ y2).setCell ⟨n, 3, none⟩ y3).cell? ⟨B, 1, none⟩ = some (.int .u64 x1) ∧ ((((v.setCell ⟨n, 0, none⟩ y0).setCell ⟨n, 1, none⟩ y1).setCell ⟨n, 2, none⟩ y2).setCell ⟨n, 3, none⟩ y3).cell? ⟨B, 2, none⟩ = some (.int .u64 x2) ∧ ((((v.setCell ⟨n, 0, none⟩ y0).setCell ⟨n, 1, none⟩ y1).setCell ⟨n, 2, none⟩ y2).setCell ⟨n, 3, none⟩ y3).cell? ⟨B, 3, none⟩ = some (.int .u64 x3)) ∧ (((((v.setCell ⟨n, 0, none⟩ y0).setCell ⟨n, 1, none⟩ y1).setCell ⟨n, 2, none⟩ y2).setCell ⟨n, 3, none⟩ y3).cell? ⟨C, 0, none⟩ = some (.int .u64 0) ∧ ((((v.setCell ⟨n, 0, none⟩ y0).setCell ⟨n, 1, none⟩ y1).setCell ⟨n, 2, none⟩ y2).setCell ⟨n, 3, none⟩ y3).cell? ⟨C, 1, none⟩ = some (.int .u64 0) ∧ ((((v.setCell ⟨n, 0, none⟩ y0).setCell ⟨n, 1, none⟩ y1).setCell ⟨n, 2, none⟩ y2).setCell ⟨n, 3, none⟩ y3).cell? ⟨C, 2, none⟩ = some (.int .u64 0) ∧ ((((v.setCell ⟨n, 0, none⟩ y0).setCell ⟨n, 1, none⟩ y1).setCell ⟨n, 2, none⟩ y2).setCell ⟨n, 3, none⟩ y3).cell? ⟨C, 3, none⟩ = some (.int .u64 0)) ∧ (((((v.setCell ⟨n, 0, none⟩ y0).setCell ⟨n, 1, none⟩ y1).setCell ⟨n, 2, none⟩ y2).setCell ⟨n, 3, none⟩ y3).frozen? ⟨C, 0, none⟩ = false ∧ ((((v.setCell ⟨n, 0, none⟩ y0).setCell ⟨n, 1, none⟩ y1).setCell ⟨n, 2, none⟩ y2).setCell ⟨n, 3, none⟩ y3).frozen? ⟨C, 1, none⟩ = false ∧ ((((v.setCell ⟨n, 0, none⟩ y0).setCell ⟨n, 1, none⟩ y1).setCell ⟨n, 2, none⟩ y2).setCell ⟨n, 3, none⟩ y3).frozen? ⟨C, 2, none⟩ = false ∧ ((((v.setCell ⟨n, 0, none⟩ y0).setCell ⟨n, 1, none⟩ y1).setCell ⟨n, 2, none⟩ y2).setCell ⟨n, 3, none⟩ y3).frozen? ⟨C, 3, none⟩ = false)) ∧ CutR x0 x1 x2 x3 B C W ((((v.setCell ⟨n, 0, none⟩ y0).setCell ⟨n, 1, none⟩ y1).setCell ⟨n, 2, none⟩ y2).setCell ⟨n, 3, none⟩ y3) :=
  CutR.out ⟨h.2.1, (((h.2.2.setCell hn _).setCell hn _).setCell hn _).setCell hn _⟩
theorem CutR.size {x0 x1 x2 x3 : Int} {B C : Nat} {W v v' : World} (hb : Below v.heap.size v v') (h : ((v.cell? ⟨B, 0, none⟩ = some (.int .u64 x0) ∧ v.cell? ⟨B, 1, none⟩ = some (.int .u64 x1) ∧ v.cell? ⟨B, 2, none⟩ = some (.int .u64 x2) ∧ v.cell? ⟨B, 3, none⟩ = some (.int .u64 x3)) ∧ (v.cell? ⟨C, 0, none⟩ = some (.int .u64 0) ∧ v.cell? ⟨C, 1, none⟩ = some (.int .u64 0) ∧ v.cell? ⟨C, 2, none⟩ = some (.int .u64 0) ∧ v.cell? ⟨C, 3, none⟩ = some (.int .u64 0)) ∧ (v.frozen? ⟨C, 0, none⟩ = false ∧ v.frozen? ⟨C, 1, none⟩ = false ∧ v.frozen? ⟨C, 2, none⟩ = false ∧ v.frozen? ⟨C, 3, none⟩ = false)) ∧ CutR x0 x1 x2 x3 B C W v) : W.heap.size ≤ v'.heap.size := Nat.le_trans h.2.2.size hb.size
theorem CutR.realloc {x0 x1 x2 x3 : Int} {B C : Nat} {W v : World} {o o' : Obj} (hz : W.heap.size ≤ v.heap.size) (h : (((v.alloc o).cell? ⟨B, 0, none⟩ = some (.int .u64 x0) ∧ (v.alloc o).cell? ⟨B, 1, none⟩ = some (.int .u64 x1) ∧ (v.alloc o).cell? ⟨B, 2, none⟩ = some (.int .u64 x2) ∧ (v.alloc o).cell? ⟨B, 3, none⟩ = some (.int .u64 x3)) ∧ ((v.alloc o).cell? ⟨C, 0, none⟩ = some (.int .u64 0) ∧ (v.alloc o).cell? ⟨C, 1, none⟩ = some (.int .u64 0) ∧ (v.alloc o).cell? ⟨C, 2, none⟩ = some (.int .u64 0) ∧ (v.alloc o).cell? ⟨C, 3, none⟩ = some (.int .u64 0)) ∧ ((v.alloc o).frozen? ⟨C, 0, none⟩ = false ∧ (v.alloc o).frozen? ⟨C, 1, none⟩ = false ∧ (v.alloc o).frozen? ⟨C, 2, none⟩ = false ∧ (v.alloc o).frozen? ⟨C, 3, none⟩ = false)) ∧ CutR x0 x1 x2 x3 B C W (v.alloc o)) : (((v.alloc o').cell? ⟨B, 0, none⟩ = some (.int .u64 x0) ∧ (v.alloc o').cell? ⟨B, 1, none⟩ = some (.int .u64 x1) ∧ (v.alloc o').cell? ⟨B, 2, none⟩ = some (.int .u64 x2) ∧ (v.alloc o').cell? ⟨B, 3, none⟩ = some (.int .u64 x3)) ∧ ((v.alloc o').cell? ⟨C, 0, none⟩ = some (.int .u64 0) ∧ (v.alloc o').cell? ⟨C, 1, none⟩ = some (.int .u64 0) ∧ (v.alloc o').cell? ⟨C, 2, none⟩ = some (.int .u64 0) ∧ (v.alloc o').cell? ⟨C, 3, none⟩ = some (.int .u64 0)) ∧ ((v.alloc o').frozen? ⟨C, 0, none⟩ = false ∧ (v.alloc o').frozen? ⟨C, 1, none⟩ = false ∧ (v.alloc o').frozen? ⟨C, 2, none⟩ = false ∧ (v.alloc o').frozen? ⟨C, 3, none⟩ = false)) ∧ CutR x0 x1 x2 x3 B C W (v.alloc o') := by
  refine CutR.out ⟨h.2.1, ?_⟩
  have hb : Below W.heap.size W v := by
    refine ⟨h.2.2.os, h.2.2.tape, h.2.2.output, hz, fun k hk => ?_⟩
    rw [← h.2.2.block k hk]
    have := (Below.refl v.heap.size v).alloc (Nat.le_refl _) o
    exact (this.block k (by omega)).symm
  exact hb.alloc hz _
theorem CutR.done {x0 x1 x2 x3 : Int} {B C n : Nat} {w W v : World} {y0 y1 y2 y3 : Value} (HW : Below w.heap.size w W) (hn : w.heap.size ≤ n) (h : ((v.cell? ⟨B, 0, none⟩ = some (.int .u64 x0) ∧ v.cell? ⟨B, 1, none⟩ = some (.int .u64 x1) ∧ v.cell? ⟨B, 2, none⟩ = some (.int .u64 x2) ∧ v.cell? ⟨B, 3, none⟩ = some (.int .u64 x3)) ∧ (v.cell? ⟨C, 0, none⟩ = some (.int .u64 0) ∧ v.cell? ⟨C, 1, none⟩ = some (.int .u64 0) ∧ v.cell? ⟨C, 2, none⟩ = some (.int .u64 0) ∧ v.cell? ⟨C, 3, none⟩ = some (.int .u64 0)) ∧ (v.frozen? ⟨C, 0, none⟩ = false ∧ v.frozen? ⟨C, 1, none⟩ = false ∧ v.frozen? ⟨C, 2, none⟩ = false ∧ v.frozen? ⟨C, 3, none⟩ = false)) ∧ CutR x0 x1 x2 x3 B C W v) : Below w.heap.size w ((((v.setCell ⟨n, 0, none⟩ y0).setCell ⟨n, 1, none⟩ y1).setCell ⟨n, 2, none⟩ y2).setCell ⟨n, 3, none⟩ y3) :=
  ((((below_then HW h.2.2).setCell hn _).setCell hn _).setCell hn _).setCell hn _
/-- A new block of four noughts, behind what a call left. -/
def New4 (n : Nat) (v : World) : Prop := (v.cell? ⟨n, 0, none⟩ = some (.int .u64 0) ∧ v.cell? ⟨n, 1, none⟩ = some (.int .u64 0) ∧ v.cell? ⟨n, 2, none⟩ = some (.int .u64 0) ∧ v.cell? ⟨n, 3, none⟩ = some (.int .u64 0)) ∧ (v.frozen? ⟨n, 0, none⟩ = false ∧ v.frozen? ⟨n, 1, none⟩ = false ∧ v.frozen? ⟨n, 2, none⟩ = false ∧ v.frozen? ⟨n, 3, none⟩ = false) ∧ n < v.heap.size
theorem New4.new (v : World) (t : TypeId) : New4 v.heap.size (v.alloc (.cells #[.int .u64 0, .int .u64 0, .int .u64 0, .int .u64 0] t)) := by
  refine ⟨⟨?_, ?_, ?_, ?_⟩, ⟨?_, ?_, ?_, ?_⟩, by simp⟩
  all_goals first
    | (rw [World.cell?_alloc_at _ _ _ _ rfl]; rfl)
    | (simp only [World.frozen?]; rw [heap_alloc_new]; rfl)
theorem New4.below {n : Nat} {v v' : World} (h : New4 n v) (hb : Below v.heap.size v v') : New4 n v' := by
  obtain ⟨a, b, c⟩ := h
  have cc := fun k => (at_block hb n k c).1
  have ff := fun k => (at_block hb n k c).2
  unfold New4
  simp only [cc, ff]
  exact ⟨a, b, Nat.lt_of_lt_of_le c hb.size⟩

theorem CutS.new (x0 x1 x2 x3 : Int) (w : World) : CutS x0 x1 x2 x3 w.heap.size (w.heap.size + 1) ((w.alloc (.cells #[.int .u64 x0, .int .u64 x1, .int .u64 x2, .int .u64 x3] 66)).alloc (.cells #[.int .u64 0, .int .u64 0, .int .u64 0, .int .u64 0] 66)) := by
  have hb : Below (w.alloc (.cells #[.int .u64 x0, .int .u64 x1, .int .u64 x2, .int .u64 x3] 66)).heap.size (w.alloc (.cells #[.int .u64 x0, .int .u64 x1, .int .u64 x2, .int .u64 x3] 66)) ((w.alloc (.cells #[.int .u64 x0, .int .u64 x1, .int .u64 x2, .int .u64 x3] 66)).alloc (.cells #[.int .u64 0, .int .u64 0, .int .u64 0, .int .u64 0] 66)) := (Below.refl _ _).alloc (Nat.le_refl _) _
  have hs : (w.alloc (.cells #[.int .u64 x0, .int .u64 x1, .int .u64 x2, .int .u64 x3] 66)).heap.size = w.heap.size + 1 := by simp
  have c := fun k => (at_block hb w.heap.size k (by omega)).1
  obtain ⟨z, f, -⟩ := New4.new (w.alloc (.cells #[.int .u64 x0, .int .u64 x1, .int .u64 x2, .int .u64 x3] 66)) 66
  rw [hs] at z f
  refine ⟨⟨?_, ?_, ?_, ?_⟩, z, f⟩
  all_goals (rw [c, World.cell?_alloc_at _ _ _ _ rfl]; rfl)

theorem New4.draw {n : Nat} {v : World} (h : New4 n v) : New4 n v.drew := h.below (Below.refl _ _).drew
set_option maxHeartbeats 4000000 in
theorem cut_walk (x0 x1 x2 x3 d0 d1 d2 d3 l0 l1 l2 l3 : Int) (w : World)
    (HO : ∀ w, Calls Tryd.prog 93 #[] w fun e w' => e = .returned (.agg #[.int .u64 l0, .int .u64 l1, .int .u64 l2, .int .u64 l3]) ∧ Below w.heap.size w w')
    (HL : ∀ w, Calls Tryd.prog 92 #[.agg #[.int .u64 x0, .int .u64 x1, .int .u64 x2, .int .u64 x3], .agg #[.int .u64 l0, .int .u64 l1, .int .u64 l2, .int .u64 l3]] w fun e w' => e = .returned (.tuple #[.agg #[.int .u64 d0, .int .u64 d1, .int .u64 d2, .int .u64 d3], .int .u64 1]) ∧ Below w.heap.size w w') :
    Calls Tryd.prog 80 #[.agg #[.int .u64 x0, .int .u64 x1, .int .u64 x2, .int .u64 x3]] w fun e w' => e = .returned (.agg #[.int .u64 x0, .int .u64 x1, .int .u64 x2, .int .u64 x3]) ∧ Below w.heap.size w w' := by
  go_enter Tryd.func80, Tryd.ntmps80
  go_wp2
  have HS := CutS.new x0 x1 x2 x3 w
  have HW : Below w.heap.size w ((w.alloc (.cells #[.int .u64 x0, .int .u64 x1, .int .u64 x2, .int .u64 x3] 66)).alloc (.cells #[.int .u64 0, .int .u64 0, .int .u64 0, .int .u64 0] 66)) := ((Below.refl _ _).alloc (Nat.le_refl _) _).alloc (by simp) _
  have hz : w.heap.size + 1 < ((w.alloc (.cells #[.int .u64 x0, .int .u64 x1, .int .u64 x2, .int .u64 x3] 66)).alloc (.cells #[.int .u64 0, .int .u64 0, .int .u64 0, .int .u64 0] 66)).heap.size := by simp
  generalize (w.alloc (.cells #[.int .u64 x0, .int .u64 x1, .int .u64 x2, .int .u64 x3] 66)).alloc (.cells #[.int .u64 0, .int .u64 0, .int .u64 0, .int .u64 0] 66) = W at *
  have HR : ((W.cell? ⟨w.heap.size, 0, none⟩ = some (.int .u64 x0) ∧ W.cell? ⟨w.heap.size, 1, none⟩ = some (.int .u64 x1) ∧ W.cell? ⟨w.heap.size, 2, none⟩ = some (.int .u64 x2) ∧ W.cell? ⟨w.heap.size, 3, none⟩ = some (.int .u64 x3)) ∧ (W.cell? ⟨w.heap.size + 1, 0, none⟩ = some (.int .u64 0) ∧ W.cell? ⟨w.heap.size + 1, 1, none⟩ = some (.int .u64 0) ∧ W.cell? ⟨w.heap.size + 1, 2, none⟩ = some (.int .u64 0) ∧ W.cell? ⟨w.heap.size + 1, 3, none⟩ = some (.int .u64 0)) ∧ (W.frozen? ⟨w.heap.size + 1, 0, none⟩ = false ∧ W.frozen? ⟨w.heap.size + 1, 1, none⟩ = false ∧ W.frozen? ⟨w.heap.size + 1, 2, none⟩ = false ∧ W.frozen? ⟨w.heap.size + 1, 3, none⟩ = false)) ∧ CutR x0 x1 x2 x3 w.heap.size (w.heap.size + 1) W W := CutR.out ⟨⟨HS, by omega, hz⟩, Below.refl _ _⟩
  go_region_held3 (fun w' => ((w'.cell? ⟨w.heap.size, 0, none⟩ = some (.int .u64 x0) ∧ w'.cell? ⟨w.heap.size, 1, none⟩ = some (.int .u64 x1) ∧ w'.cell? ⟨w.heap.size, 2, none⟩ = some (.int .u64 x2) ∧ w'.cell? ⟨w.heap.size, 3, none⟩ = some (.int .u64 x3)) ∧ (w'.cell? ⟨(w.heap.size + 1), 0, none⟩ = some (.int .u64 0) ∧ w'.cell? ⟨(w.heap.size + 1), 1, none⟩ = some (.int .u64 0) ∧ w'.cell? ⟨(w.heap.size + 1), 2, none⟩ = some (.int .u64 0) ∧ w'.cell? ⟨(w.heap.size + 1), 3, none⟩ = some (.int .u64 0)) ∧ (w'.frozen? ⟨(w.heap.size + 1), 0, none⟩ = false ∧ w'.frozen? ⟨(w.heap.size + 1), 1, none⟩ = false ∧ w'.frozen? ⟨(w.heap.size + 1), 2, none⟩ = false ∧ w'.frozen? ⟨(w.heap.size + 1), 3, none⟩ = false)) ∧ CutR x0 x1 x2 x3 w.heap.size (w.heap.size + 1) W w')
    (with_reducible (first | assumption | exact CutR.drew (by assumption) | exact CutR.alloc (by assumption) | exact CutR.allocDrew (by assumption) | exact CutR.then (by assumption) (by assumption) | exact CutR.realloc (by assumption) (by assumption) | exact CutR.store (by assumption) (by assumption) | exact CutR.store (Nat.le_refl _) (by assumption)))
    (first
      | (go_at_call 93; refine (HO _).mono ?_; rintro e w' ⟨rfl, hb⟩; have hz2 := CutR.size hb (by assumption); first | ((have N2 := New4.below N hb); (have ⟨⟨m1, m2, m3, m4⟩, ⟨m5, m6, m7, m8⟩, m9⟩ := N2); (try replace N := N2)) | ((with_reducible (have hq : Below (World.drew (World.alloc _ _)).heap.size (World.drew (World.alloc _ _)) _ := hb)); have N := (New4.new _ _).draw.below hq; have ⟨⟨n1, n2, n3, n4⟩, ⟨n5, n6, n7, n8⟩, n9⟩ := N) | ((with_reducible (have hq : Below (World.alloc _ _).heap.size (World.alloc _ _) _ := hb)); have N := (New4.new _ _).below hq; (try simp only [World.size_drew] at N); have ⟨⟨n1, n2, n3, n4⟩, ⟨n5, n6, n7, n8⟩, n9⟩ := N) | skip)
      | (go_at_call 92; refine (HL _).mono ?_; rintro e w' ⟨rfl, hb⟩; have hz2 := CutR.size hb (by assumption); first | ((have N2 := New4.below N hb); (have ⟨⟨m1, m2, m3, m4⟩, ⟨m5, m6, m7, m8⟩, m9⟩ := N2); (try replace N := N2)) | ((with_reducible (have hq : Below (World.drew (World.alloc _ _)).heap.size (World.drew (World.alloc _ _)) _ := hb)); have N := (New4.new _ _).draw.below hq; have ⟨⟨n1, n2, n3, n4⟩, ⟨n5, n6, n7, n8⟩, n9⟩ := N) | ((with_reducible (have hq : Below (World.alloc _ _).heap.size (World.alloc _ _) _ := hb)); have N := (New4.new _ _).below hq; (try simp only [World.size_drew] at N); have ⟨⟨n1, n2, n3, n4⟩, ⟨n5, n6, n7, n8⟩, n9⟩ := N) | skip))
  all_goals
    go_wp2
    refine bodyPost_ret (v := .agg #[.int .u64 x0, .int .u64 x1, .int .u64 x2, .int .u64 x3]) ?_ rfl ⟨rfl, CutR.done HW (Nat.le_succ _) (by assumption)⟩
    simp [results, Tryd.results80, go_sem, *]
end Go.Proofs.YtelppapkffjmpaaDoor
end
section
--@optional
namespace Go.Proofs.YtelppapkffjmpaaDoor
open Go.RowKit Go.Shelf
set_option linter.unusedVariables false

set_option maxHeartbeats 4000000 in
theorem cut_walk2 (x0 x1 x2 x3 d0 d1 d2 d3 l0 l1 l2 l3 : Int) (w : World)
    (HO : ∀ w, Calls Tryd.prog 93 #[] w fun e w' => e = .returned (.agg #[.int .u64 l0, .int .u64 l1, .int .u64 l2, .int .u64 l3]) ∧ Below w.heap.size w w')
    (HL : ∀ w, Calls Tryd.prog 92 #[.agg #[.int .u64 x0, .int .u64 x1, .int .u64 x2, .int .u64 x3], .agg #[.int .u64 l0, .int .u64 l1, .int .u64 l2, .int .u64 l3]] w fun e w' => e = .returned (.tuple #[.agg #[.int .u64 d0, .int .u64 d1, .int .u64 d2, .int .u64 d3], .int .u64 0]) ∧ Below w.heap.size w w') :
    Calls Tryd.prog 80 #[.agg #[.int .u64 x0, .int .u64 x1, .int .u64 x2, .int .u64 x3]] w fun e w' => e = .returned (.agg #[.int .u64 d0, .int .u64 d1, .int .u64 d2, .int .u64 d3]) ∧ Below w.heap.size w w' := by
  go_enter Tryd.func80, Tryd.ntmps80
  go_wp2
  have HS := CutS.new x0 x1 x2 x3 w
  have HW : Below w.heap.size w ((w.alloc (.cells #[.int .u64 x0, .int .u64 x1, .int .u64 x2, .int .u64 x3] 66)).alloc (.cells #[.int .u64 0, .int .u64 0, .int .u64 0, .int .u64 0] 66)) := ((Below.refl _ _).alloc (Nat.le_refl _) _).alloc (by simp) _
  have hz : w.heap.size + 1 < ((w.alloc (.cells #[.int .u64 x0, .int .u64 x1, .int .u64 x2, .int .u64 x3] 66)).alloc (.cells #[.int .u64 0, .int .u64 0, .int .u64 0, .int .u64 0] 66)).heap.size := by simp
  generalize (w.alloc (.cells #[.int .u64 x0, .int .u64 x1, .int .u64 x2, .int .u64 x3] 66)).alloc (.cells #[.int .u64 0, .int .u64 0, .int .u64 0, .int .u64 0] 66) = W at *
  have HR : ((W.cell? ⟨w.heap.size, 0, none⟩ = some (.int .u64 x0) ∧ W.cell? ⟨w.heap.size, 1, none⟩ = some (.int .u64 x1) ∧ W.cell? ⟨w.heap.size, 2, none⟩ = some (.int .u64 x2) ∧ W.cell? ⟨w.heap.size, 3, none⟩ = some (.int .u64 x3)) ∧ (W.cell? ⟨w.heap.size + 1, 0, none⟩ = some (.int .u64 0) ∧ W.cell? ⟨w.heap.size + 1, 1, none⟩ = some (.int .u64 0) ∧ W.cell? ⟨w.heap.size + 1, 2, none⟩ = some (.int .u64 0) ∧ W.cell? ⟨w.heap.size + 1, 3, none⟩ = some (.int .u64 0)) ∧ (W.frozen? ⟨w.heap.size + 1, 0, none⟩ = false ∧ W.frozen? ⟨w.heap.size + 1, 1, none⟩ = false ∧ W.frozen? ⟨w.heap.size + 1, 2, none⟩ = false ∧ W.frozen? ⟨w.heap.size + 1, 3, none⟩ = false)) ∧ CutR x0 x1 x2 x3 w.heap.size (w.heap.size + 1) W W := CutR.out ⟨⟨HS, by omega, hz⟩, Below.refl _ _⟩
  go_region_held3 (fun w' => ((w'.cell? ⟨w.heap.size, 0, none⟩ = some (.int .u64 x0) ∧ w'.cell? ⟨w.heap.size, 1, none⟩ = some (.int .u64 x1) ∧ w'.cell? ⟨w.heap.size, 2, none⟩ = some (.int .u64 x2) ∧ w'.cell? ⟨w.heap.size, 3, none⟩ = some (.int .u64 x3)) ∧ (w'.cell? ⟨(w.heap.size + 1), 0, none⟩ = some (.int .u64 0) ∧ w'.cell? ⟨(w.heap.size + 1), 1, none⟩ = some (.int .u64 0) ∧ w'.cell? ⟨(w.heap.size + 1), 2, none⟩ = some (.int .u64 0) ∧ w'.cell? ⟨(w.heap.size + 1), 3, none⟩ = some (.int .u64 0)) ∧ (w'.frozen? ⟨(w.heap.size + 1), 0, none⟩ = false ∧ w'.frozen? ⟨(w.heap.size + 1), 1, none⟩ = false ∧ w'.frozen? ⟨(w.heap.size + 1), 2, none⟩ = false ∧ w'.frozen? ⟨(w.heap.size + 1), 3, none⟩ = false)) ∧ CutR x0 x1 x2 x3 w.heap.size (w.heap.size + 1) W w')
    (with_reducible (first | assumption | exact CutR.drew (by assumption) | exact CutR.alloc (by assumption) | exact CutR.allocDrew (by assumption) | exact CutR.then (by assumption) (by assumption) | exact CutR.realloc (by assumption) (by assumption) | exact CutR.store (by assumption) (by assumption) | exact CutR.store (Nat.le_refl _) (by assumption)))
    (first
      | (go_at_call 93; refine (HO _).mono ?_; rintro e w' ⟨rfl, hb⟩; have hz2 := CutR.size hb (by assumption); first | ((have N2 := New4.below N hb); (have ⟨⟨m1, m2, m3, m4⟩, ⟨m5, m6, m7, m8⟩, m9⟩ := N2); (try replace N := N2)) | ((with_reducible (have hq : Below (World.drew (World.alloc _ _)).heap.size (World.drew (World.alloc _ _)) _ := hb)); have N := (New4.new _ _).draw.below hq; have ⟨⟨n1, n2, n3, n4⟩, ⟨n5, n6, n7, n8⟩, n9⟩ := N) | ((with_reducible (have hq : Below (World.alloc _ _).heap.size (World.alloc _ _) _ := hb)); have N := (New4.new _ _).below hq; (try simp only [World.size_drew] at N); have ⟨⟨n1, n2, n3, n4⟩, ⟨n5, n6, n7, n8⟩, n9⟩ := N) | skip)
      | (go_at_call 92; refine (HL _).mono ?_; rintro e w' ⟨rfl, hb⟩; have hz2 := CutR.size hb (by assumption); first | ((have N2 := New4.below N hb); (have ⟨⟨m1, m2, m3, m4⟩, ⟨m5, m6, m7, m8⟩, m9⟩ := N2); (try replace N := N2)) | ((with_reducible (have hq : Below (World.drew (World.alloc _ _)).heap.size (World.drew (World.alloc _ _)) _ := hb)); have N := (New4.new _ _).draw.below hq; have ⟨⟨n1, n2, n3, n4⟩, ⟨n5, n6, n7, n8⟩, n9⟩ := N) | ((with_reducible (have hq : Below (World.alloc _ _).heap.size (World.alloc _ _) _ := hb)); have N := (New4.new _ _).below hq; (try simp only [World.size_drew] at N); have ⟨⟨n1, n2, n3, n4⟩, ⟨n5, n6, n7, n8⟩, n9⟩ := N) | skip))
  all_goals
    go_wp2
    refine bodyPost_ret (v := .agg #[.int .u64 d0, .int .u64 d1, .int .u64 d2, .int .u64 d3]) ?_ rfl ⟨rfl, CutR.done HW (Nat.le_succ _) (by assumption)⟩
    simp [results, Tryd.results80, go_sem, *]
end Go.Proofs.YtelppapkffjmpaaDoor
end
section
--@optional
namespace Go.Proofs.YtelppapkffjmpaaDoor
open Go.RowKit Go.Shelf
set_option linter.unusedVariables false

/-- A number, or what is left of it without the order, if it isn't below it. -/
def cutS (xs : List Int) : List Int := if valW xs 4 < valW ordL 4 then xs else subS xs ordL 4
theorem four_of {l : List Int} (h : l.length = 4) : ∃ a b c d, l = [a, b, c, d] := by
  match l, h with
  | [a, b, c, d], _ => exact ⟨a, b, c, d, rfl⟩
theorem cut_any (xs : List Int) (w : World) (hx : Words xs) (hl : xs.length = 4) :
    Calls Tryd.prog 80 #[aggI .u64 xs] w fun e w' => e = .returned (aggI .u64 (cutS xs)) ∧ Below w.heap.size w w' := by
  have HL := fun w => less_any xs ordL w hx ordL_words hl rfl
  have HB := brw_iff xs ordL hx ordL_words 4
  obtain ⟨d0, d1, d2, d3, hd⟩ := four_of (by simp [subS] : (subS xs ordL 4).length = 4)
  have hc : cutS xs = if valW xs 4 < valW ordL 4 then xs else [d0, d1, d2, d3] := by rw [cutS, hd]
  rw [hd, HB] at HL
  rw [hc]
  clear hd HB hc
  by_cases hlt : valW xs 4 < valW ordL 4
  · rw [if_pos hlt] at HL ⊢
    clear hlt hx
    obtain ⟨x0, x1, x2, x3, rfl⟩ := four_of hl
    exact cut_walk x0 x1 x2 x3 d0 d1 d2 d3 _ _ _ _ w order_any HL
  · rw [if_neg hlt] at HL ⊢
    clear hlt hx
    obtain ⟨x0, x1, x2, x3, rfl⟩ := four_of hl
    exact cut_walk2 x0 x1 x2 x3 d0 d1 d2 d3 _ _ _ _ w order_any HL
end Go.Proofs.YtelppapkffjmpaaDoor
end
section
--@optional
namespace Go.Proofs.YtelppapkffjmpaaDoor
open Go.RowKit Go.Shelf
set_option linter.unusedVariables false

theorem cutS_words {xs : List Int} (hx : Words xs) : Words (cutS xs) := by
  unfold cutS
  split
  · exact hx
  · exact subS_words _ _ _
theorem cutS_length {xs : List Int} (hl : xs.length = 4) : (cutS xs).length = 4 := by
  unfold cutS
  split
  · exact hl
  · simp [subS]
theorem cutS_val {xs : List Int} (hx : Words xs) : valW (cutS xs) 4 = if valW xs 4 < valW ordL 4 then valW xs 4 else valW xs 4 - valW ordL 4 := by
  unfold cutS
  split
  · rfl
  · next h =>
    have hb := brw_iff xs ordL hx ordL_words 4
    rw [if_neg h] at hb
    rw [val_subW xs ordL hx ordL_words 4 4 (Nat.le_refl _), hb]
    omega
end Go.Proofs.YtelppapkffjmpaaDoor
end
section
--@optional
namespace Go.Proofs.YtelppapkffjmpaaDoor
open Go.RowKit Go.Shelf
set_option linter.unusedVariables false
set_option maxRecDepth 4000

theorem und_long : Tryd.prog.underlying 68 = some (.array 8 34) := by kernel_rfl
theorem info_long : (Tryd.prog.info? 68).map (·.size) = some 8 := by kernel_rfl
theorem zero_long : (Tryd.prog.info? 68).bind (·.zero) = some (.agg (Array.replicate 8 (Value.int .u64 0))) := by kernel_rfl
/-- The order. -/
def ordV : Int := 7237005577332262213973186563042994240857116359379907606001950938285454250989
theorem valW_ordL : valW ordL 4 = ordV := by decide +kernel
theorem red_step (xs : List Int) (hx : Words xs) (rs : List Int) (hrw : Words rs) (n k : Nat) (hlt : k < 64 * n) (hrv : valW rs 4 = valW xs n / 2 ^ (64 * n - k) % ordV) :
    valW (cutS (dblS rs (bitW xs (64 * n - 1 - k)))) 4 = valW xs n / 2 ^ (64 * n - (k + 1)) % ordV := by
  have hb := bitW_bit xs (64 * n - 1 - k)
  have hbv := bitW_val xs hx n (64 * n - 1 - k) (by omega)
  have hh := half_val (valW xs n) (64 * n - 1 - k)
  rw [show 64 * n - 1 - k + 1 = 64 * n - k by omega, ← hbv] at hh
  rw [show 64 * n - (k + 1) = 64 * n - 1 - k by omega, hh]
  have hlo : 0 ≤ valW rs 4 ∧ valW rs 4 < ordV := by rw [hrv]; unfold ordV; omega
  have hd := val_dblS rs hrw _ hb (by have := hlo.2; unfold ordV at this; omega)
  rw [cutS_val (dblS_words rs hrw _ hb), hd, valW_ordL, hrv]
  generalize valW xs n / 2 ^ (64 * n - k) = y
  generalize bitW xs (64 * n - 1 - k) = b at *
  unfold ordV
  split <;> omega

set_option maxHeartbeats 1000000 in
theorem reduced_any (xs : List Int) (w : World) (hx : Words xs) (hl : xs.length = 8) :
  Calls Tryd.prog 46 #[aggI .u64 xs] w fun e w' => e = .returned (aggI .u64 (numW 4 (valW xs 8 % ordV))) ∧ Below w.heap.size w w' := by
 go_enter Tryd.func46, Tryd.ntmps46
 go_wp2_with (first
  | (with_reducible refine at_n 1 ?_; refine wpList_boxI rfl 68 _ rfl .u64 xs rfl ?_; intro w1 A1 s1 b1)
  | (with_reducible refine at_n 2 ?_; refine wpList_allocI rfl 66 rfl .u64 4 zero_short ?_; intro w2 R2 s2 b2; have A2 := A1.below b2)
  | (with_reducible refine at_n 3 ?_; refine wpList_allocI rfl 66 rfl .u64 4 zero_short ?_; intro w3 D3 s3 b3; have A3 := A2.below b3; have R3 := R2.below b3))
 go_loopw [6] (fun i wr => ∃ (k : Nat) (rs : List Int), k ≤ 512 ∧ i = .int .i64 k ∧ Arr .u64 wr w.heap.size xs ∧ Arr .u64 wr w1.heap.size (List.replicate 4 0) ∧ Arr .u64 wr w2.heap.size rs ∧ Words rs ∧ rs.length = 4 ∧ valW rs 4 = valW xs 8 / 2 ^ (512 - k) % ordV ∧ Below w.heap.size w wr) (fun i _ => 512 - (intOf i).toNat)
 case atStart =>
  refine ⟨0, _, by omega, rfl, A3, R3, D3, ?_, rfl, ?_, below_then (below_then b1 b2) b3⟩
  ·
   intro x hx'
   rw [List.eq_of_mem_replicate hx']
   omega
  ·
   have h8 := valW_lt xs hx 8
   rw [Nat.sub_zero, Int.ediv_eq_zero_of_lt h8.1 h8.2]
   decide +kernel
 case round =>
  obtain ⟨k, rs, hk, rfl, A, R, D, hrw, hrl, hrv, hbel⟩ := hrel
  by_cases hlt : k < 512
  ·
   obtain ⟨j, hj, hjk, hj5⟩ : ∃ j : Nat, (511 - (k : Int)) = (j : Nat) ∧ 511 - k = j ∧ j < 512 := ⟨511 - k, by omega, rfl, by omega⟩
   have e1 : IntKind.i64.wrap ((j : Int) / 64) = (j : Int) / 64 := by
    rw [IntKind.wrap_i64]
    omega
   have e2 : (j : Int).tmod 64 = (j : Int) % 64 := rfl
   have e3 : (0 : Int) ≤ (j : Int) / 64 := by omega
   have e4 : (j : Int) / 64 < 8 := by omega
   have e5 : (0 : Int) ≤ (j : Int) % 64 := by omega
   have e6 : (j : Int) % 64 < 64 := by omega
   have e8 : ((j : Int) / 64).toNat = j / 64 := by omega
   have e9 : ((j : Int) % 64).toNat = j % 64 := by omega
   have hx64 := hx.at (j / 64)
   have e7 : bits BinOp.and IntKind.u64 (at0 xs (j / 64) / 2 ^ (j % 64)) 1 = bitW xs j := by
    have h0 : 0 ≤ at0 xs (j / 64) / 2 ^ (j % 64) := Int.ediv_nonneg hx64.1 (Int.le_of_lt (pow_pos2 _))
    have h1 : at0 xs (j / 64) / 2 ^ (j % 64) ≤ at0 xs (j / 64) := Int.ediv_le_self _ hx64.1
    exact u64_and_mask _ 1 1 rfl (by omega) h0 (by omega)
   go_wp2
   refine wp_region_ord [[], [], [1], [2], [3], [], [5], [4, 6], [7], [0, 8], [9, 9], [10, 10, 0, 1, 2, 3, 4, 5, 6, 7, 8, 9, 10]] [some 11, some 12, some 13, some 14, some 15, some 16, some 17, some 18, some 19, some 20, some 21, none] 11 (fun b w' => Arr .u64 w' w.heap.size xs ∧ Arr .u64 w' w1.heap.size (List.replicate 4 0) ∧ Arr .u64 w' w2.heap.size (if b then cutS (dblS rs (bitW xs j)) else rs) ∧ Below w.heap.size w w') (fun opn f _ => match opn with | 0 => f 0 = aggI .u64 rs | 1 => f 1 = .int .i64 (j : Nat) | 2 => f 2 = .int .i64 ((j : Int) / 64) | 3 => f 3 = .pointer (some ⟨w.heap.size, j / 64, none⟩) | 4 => f 4 = .int .u64 (at0 xs (j / 64)) | 5 => f 5 = .int .i64 (j : Nat) | 6 => f 6 = .int .i64 ((j : Int) % 64) | 7 => f 7 = .int .u64 (at0 xs (j / 64) / 2 ^ (j % 64)) | 8 => f 8 = .int .u64 (bitW xs j) | 9 => f 9 = aggI .u64 (dblS rs (bitW xs j)) | 10 => f 10 = aggI .u64 (cutS (dblS rs (bitW xs j))) | 11 => f 11 = undef | _ => True) (fun _ v v' => ∃ cs, v' = v.setRow w2.heap.size cs) (by kernel_rfl) (by kernel_rfl) (by kernel_rfl) (by kernel_rfl) (fun b v v' hb h => ⟨h.1.below hb, h.2.1.below hb, h.2.2.1.below hb, below_then h.2.2.2 hb⟩) (fun _ _ _ _ _ h => h) (fun _ _ _ _ _ _ _ h => h) ⟨A.drew, R.drew, D.drew, hbel.drew⟩ ?_ ?_
   ·
    refine StepL.other (k := 0) rfl (fun b f W hb hG hH => ?_) ?_
    ·
     obtain rfl := hb rfl
     clear hH
     generalize hA : putL _ _ _ _ = A
     have q3 : A.eval (.tmp 3) = .pointer (some ⟨w2.heap.size, 0, none⟩) := putLn hA 3 rfl rfl rfl
     have r3 := slot_get q3
     clear hA
     exact Does.loadI rfl 66 _ rfl 4 34 und_short info_short w2.heap.size q3 .u64 rs hG.2.2.1 hrl ⟨Below.refl _ _, rfl⟩
    refine StepL.other (k := 1) rfl (fun b f W hb hG hH => ?_) ?_
    ·
     obtain rfl := hb rfl
     clear hH
     generalize hA : putL _ _ _ _ = A
     have q5 : A.eval (.tmp 5) = .int .i64 (j : Nat) := putLn hA 5 rfl rfl rfl
     have r5 := slot_get q5
     clear hA
     refine Does.pure rfl (.int .i64 (j : Nat)) ?_ ⟨Below.refl _ _, rfl⟩
     go_simp
    refine StepL.other (k := 2) rfl (fun b f W hb hG hH => ?_) ?_
    ·
     obtain rfl := hb rfl
     obtain ⟨d1, -⟩ := hH
     generalize hA : putL _ _ _ _ = A
     have q12 := putLl hA 12 d1 rfl rfl
     have r12 := slot_get q12
     clear hA
     refine Does.pure rfl (.int .i64 ((j : Int) / 64)) ?_ ⟨Below.refl _ _, rfl⟩
     go_simp
    refine StepL.other (k := 3) rfl (fun b f W hb hG hH => ?_) ?_
    ·
     obtain rfl := hb rfl
     obtain ⟨d2, -⟩ := hH
     generalize hA : putL _ _ _ _ = A
     have q1 : A.eval (.tmp 1) = .pointer (some ⟨w.heap.size, 0, none⟩) := putLn hA 1 rfl rfl rfl
     have r1 := slot_get q1
     have q13 := putLl hA 13 d2 rfl rfl
     have r13 := slot_get q13
     clear hA
     refine Does.pure rfl (.pointer (some ⟨w.heap.size, j / 64, none⟩)) ?_ ⟨Below.refl _ _, rfl⟩
     go_simp
    refine StepL.other (k := 4) rfl (fun b f W hb hG hH => ?_) ?_
    ·
     obtain rfl := hb rfl
     obtain ⟨d3, -⟩ := hH
     generalize hA : putL _ _ _ _ = A
     have q14 := putLl hA 14 d3 rfl rfl
     have r14 := slot_get q14
     clear hA
     have c0 := hG.1.cell (k := j / 64) (by omega)
     refine Does.pure rfl (.int .u64 (at0 xs (j / 64))) ?_ ⟨Below.refl _ _, rfl⟩
     go_simp
    refine StepL.other (k := 5) rfl (fun b f W hb hG hH => ?_) ?_
    ·
     obtain rfl := hb rfl
     clear hH
     generalize hA : putL _ _ _ _ = A
     have q5 : A.eval (.tmp 5) = .int .i64 (j : Nat) := putLn hA 5 rfl rfl rfl
     have r5 := slot_get q5
     clear hA
     refine Does.pure rfl (.int .i64 (j : Nat)) ?_ ⟨Below.refl _ _, rfl⟩
     go_simp
    refine StepL.other (k := 6) rfl (fun b f W hb hG hH => ?_) ?_
    ·
     obtain rfl := hb rfl
     obtain ⟨d5, -⟩ := hH
     generalize hA : putL _ _ _ _ = A
     have q16 := putLl hA 16 d5 rfl rfl
     have r16 := slot_get q16
     clear hA
     refine Does.pure rfl (.int .i64 ((j : Int) % 64)) ?_ ⟨Below.refl _ _, rfl⟩
     go_simp
    refine StepL.other (k := 7) rfl (fun b f W hb hG hH => ?_) ?_
    ·
     obtain rfl := hb rfl
     obtain ⟨d4, d6, -⟩ := hH
     generalize hA : putL _ _ _ _ = A
     have q15 := putLl hA 15 d4 rfl rfl
     have r15 := slot_get q15
     have q17 := putLl hA 17 d6 rfl rfl
     have r17 := slot_get q17
     clear hA
     refine Does.pure rfl (.int .u64 (at0 xs (j / 64) / 2 ^ (j % 64))) ?_ ⟨Below.refl _ _, rfl⟩
     go_simp
    refine StepL.other (k := 8) rfl (fun b f W hb hG hH => ?_) ?_
    ·
     obtain rfl := hb rfl
     obtain ⟨d7, -⟩ := hH
     generalize hA : putL _ _ _ _ = A
     have q18 := putLl hA 18 d7 rfl rfl
     have r18 := slot_get q18
     clear hA
     refine Does.pure rfl (.int .u64 (bitW xs j)) ?_ ⟨Below.refl _ _, rfl⟩
     go_simp
    refine StepL.other (k := 9) rfl (fun b f W hb hG hH => ?_) ?_
    ·
     obtain rfl := hb rfl
     obtain ⟨d0, d8, -⟩ := hH
     generalize hA : putL _ _ _ _ = A
     have q11 := putLl hA 11 d0 rfl rfl
     have r11 := slot_get q11
     have q19 := putLl hA 19 d8 rfl rfl
     have r19 := slot_get q19
     clear hA
     refine Does.call rfl 79 #[aggI .u64 rs, .int .u64 (bitW xs j)] (by go_simp) ((doubled_any rs (bitW xs j) W hrw hrl (bitW_bit xs j)).mono ?_)
     rintro e w' ⟨rfl, hb'⟩
     exact ⟨_, rfl, hb', rfl⟩
    refine StepL.other (k := 10) rfl (fun b f W hb hG hH => ?_) ?_
    ·
     obtain rfl := hb rfl
     obtain ⟨d9, -, -⟩ := hH
     generalize hA : putL _ _ _ _ = A
     have q20 := putLl hA 20 d9 rfl rfl
     have r20 := slot_get q20
     clear hA
     refine Does.call rfl 80 #[aggI .u64 (dblS rs (bitW xs j))] (by go_simp) ((cut_any (dblS rs (bitW xs j)) W (dblS_words rs hrw _ (bitW_bit xs j)) rfl).mono ?_)
     rintro e w' ⟨rfl, hb'⟩
     exact ⟨_, rfl, hb', rfl⟩
    refine StepL.self (k := 11) rfl (fun f W hG hH => ?_) ?_
    ·
     obtain ⟨d10, -, d0, d1, d2, d3, d4, d5, d6, d7, d8, d9, -, -⟩ := hH
     generalize hA : putL _ _ _ _ = A
     have q3 : A.eval (.tmp 3) = .pointer (some ⟨w2.heap.size, 0, none⟩) := putLn hA 3 rfl rfl rfl
     have r3 := slot_get q3
     have q21 := putLl hA 21 d10 rfl rfl
     have r21 := slot_get q21
     clear hA
     refine Does.storeI rfl 66 _ _ rfl 4 info_short w2.heap.size q3 .u64 rs _ q21 hG.2.2.1 hrl (cutS_length rfl) ?_
     intro A9
     exact ⟨⟨_, rfl⟩, ⟨hG.1.rowOther (by omega) _, hG.2.1.rowOther (by omega) _, A9, Below.setRow hG.2.2.2 (by omega) _⟩, rfl⟩
    exact trivial
   ·
    intro f W hG hH
    obtain ⟨d0, d1, d2, d3, d4, d5, d6, d7, d8, d9, d10, d11, -⟩ : (f 0 = aggI .u64 rs) ∧ (f 1 = .int .i64 (j : Nat)) ∧ (f 2 = .int .i64 ((j : Int) / 64)) ∧ (f 3 = .pointer (some ⟨w.heap.size, j / 64, none⟩)) ∧ (f 4 = .int .u64 (at0 xs (j / 64))) ∧ (f 5 = .int .i64 (j : Nat)) ∧ (f 6 = .int .i64 ((j : Int) % 64)) ∧ (f 7 = .int .u64 (at0 xs (j / 64) / 2 ^ (j % 64))) ∧ (f 8 = .int .u64 (bitW xs j)) ∧ (f 9 = aggI .u64 (dblS rs (bitW xs j))) ∧ (f 10 = aggI .u64 (cutS (dblS rs (bitW xs j)))) ∧ (f 11 = undef) ∧ True := hH
    rw [show List.range (List.length [[], [], [1], [2], [3], [], [5], [4, 6], [7], [0, 8], [9, 9], [10, 10, 0, 1, 2, 3, 4, 5, 6, 7, 8, 9, 10]]) = [0, 1, 2, 3, 4, 5, 6, 7, 8, 9, 10, 11] from rfl]
    simp only [putL, List.getElem?_cons_zero, List.getElem?_cons_succ, Option.join, Option.bind_some, id_eq, Act.put, List.setIfInBounds_toArray, List.set_cons_zero, List.set_cons_succ, d0, d1, d2, d3, d4, d5, d6, d7, d8, d9, d10]
    clear d0 d1 d2 d3 d4 d5 d6 d7 d8 d9 d10 d11
    obtain ⟨A, R, D, hbel⟩ := hG
    have D : Arr .u64 W w2.heap.size (cutS (dblS rs (bitW xs j))) := D
    go_wp2
    refine ⟨⟨k + 1, _, by omega, by go_num, A, R, D, cutS_words (dblS_words rs hrw _ (bitW_bit xs j)), cutS_length rfl, ?_, hbel⟩, by simp [intOf]; omega⟩
    rw [show 512 - (k + 1) = j by omega]
    have hst := red_step xs hx rs hrw 8 k hlt hrv
    rw [show 64 * 8 - 1 - k = j by omega, show 64 * 8 - (k + 1) = j by omega] at hst
    exact hst
  ·
   obtain rfl : k = 512 := by omega
   have hys : rs = numW 4 (valW xs 8 % ordV) := by
    rw [eq_numW rs hrw 4 hrl, hrv]
    simp
   subst hys
   go_wp2_with (first
    | (with_reducible refine at_n 23 ?_; refine wpList_loadI rfl 66 _ rfl 4 34 und_short info_short w2.heap.size rfl .u64 _ D hrl ?_)
    | (with_reducible refine at_op (o := ⟨_, .store 66 _ _, _, _, _, _⟩) ?_; refine wpList_storeI rfl 66 _ _ rfl 4 info_short w1.heap.size rfl .u64 _ _ rfl R (by simp) hrl ?_; intro A9))
   refine bodyPost_ret (results_cellI rfl _ 4 34 und_short info_short w1.heap.size rfl .u64 _ A9 hrl) rfl ?_
   exact ⟨rfl, Below.setRow hbel (by omega) _⟩
end Go.Proofs.YtelppapkffjmpaaDoor
end
section
--@optional
namespace Go.Proofs.YtelppapkffjmpaaDoor
open Go.RowKit Go.Shelf
set_option linter.unusedVariables false

theorem tail_step (ps : List Int) (k : Nat) (T c l c2 : Int) (hl : ps.length = 8) (hk : k < 8) (h : valW ps 8 + c * 2 ^ (64 * k) = T) (he : l + c2 * 18446744073709551616 = at0 ps k + c) :
    valW (ps.set k l) 8 + c2 * 2 ^ (64 * (k + 1)) = T := by
  rw [valW_set ps k l (by omega), if_pos (by omega), pow_split]
  generalize (2 : Int) ^ (64 * k) = p at *
  generalize valW ps 8 = v at *
  generalize at0 ps k = a at *
  clear hl hk
  grind
theorem row_end (ps xs ys cs : List Int) (hx : Words xs) (hy : Words ys) (hc : Words cs) (hp : Words ps) (k : Nat) (hk : k < 4) (c : Int) (hc0 : 0 ≤ c)
    (h : valW ps 8 + c * 2 ^ (64 * 8) = valW cs 4 + valW xs k * valW ys 4 + at0 xs k * valW ys 4 * 2 ^ (64 * k)) : valW ps 8 = valW cs 4 + valW xs (k + 1) * valW ys 4 := by
  have e : valW cs 4 + valW xs k * valW ys 4 + at0 xs k * valW ys 4 * 2 ^ (64 * k) = valW cs 4 + valW xs (k + 1) * valW ys 4 := by
    simp only [valW.eq_2 xs k]
    generalize (2 : Int) ^ (64 * k) = p
    grind
  rw [e] at h
  have h1 := valW_lt xs hx (k + 1)
  have h2 := valW_lt ys hy 4
  have h3 := valW_lt cs hc 4
  have h4 := valW_lt ps hp 8
  have h5 : (2 : Int) ^ (64 * (k + 1)) ≤ 2 ^ (64 * 4) := by
    obtain rfl | rfl | rfl | rfl : k = 0 ∨ k = 1 ∨ k = 2 ∨ k = 3 := by omega
    all_goals decide +kernel
  have h6 : valW xs (k + 1) * valW ys 4 ≤ (2 ^ (64 * 4) - 1) * (2 ^ (64 * 4) - 1) := Int.mul_le_mul (by omega) (by omega) h2.1 (by decide +kernel)
  have h8 : (2 : Int) ^ (64 * 8) = 2 ^ (64 * 4) * 2 ^ (64 * 4) := by rw [← Int.pow_add]
  rw [h8] at h h4
  clear h8
  simp only [Nat.reduceMul, Int.reducePow] at *
  have h7 : 0 ≤ valW xs (k + 1) * valW ys 4 := Int.mul_nonneg h1.1 h2.1
  generalize valW xs (k + 1) * valW ys 4 = m at *
  have : c = 0 := by omega
  subst this
  omega
theorem valW_append (cs zs : List Int) (n : Nat) (h : n ≤ cs.length) : valW (cs ++ zs) n = valW cs n := by
  induction n with
  | zero => rfl
  | succ n ih =>
    have e : at0 (cs ++ zs) n = at0 cs n := by simp [at0, List.getElem?_append_left (show n < cs.length by omega)]
    simp only [valW, ih (by omega), e]
theorem valW_pad (cs : List Int) (h : cs.length = 4) : valW (cs ++ [0, 0, 0, 0]) 8 = valW cs 4 := by
  have e : ∀ j, 4 ≤ j → j < 8 → at0 (cs ++ [0, 0, 0, 0]) j = 0 := by
    intro j h1 h2
    simp only [at0, List.getElem?_append_right (show cs.length ≤ j by omega), h]
    obtain rfl | rfl | rfl | rfl : j = 4 ∨ j = 5 ∨ j = 6 ∨ j = 7 := by omega
    all_goals rfl
  rw [valW, e 7 (by omega) (by omega), valW, e 6 (by omega) (by omega), valW, e 5 (by omega) (by omega), valW, e 4 (by omega) (by omega), valW_append cs _ 4 (by omega)]
  omega
theorem pad_words {cs : List Int} (h : Words cs) : Words (cs ++ [0, 0, 0, 0]) := fun x hx => by
  rcases List.mem_append.1 hx with h1 | h1
  · exact h x h1
  · simp at h1; omega
end Go.Proofs.YtelppapkffjmpaaDoor
end
section
--@optional
namespace Go.Proofs.YtelppapkffjmpaaDoor
open Go.RowKit Go.Shelf
set_option linter.unusedVariables false
set_option maxRecDepth 8000

set_option maxHeartbeats 4000000 in
theorem stimes_any (xs ys cs : List Int) (w : World) (hx : Words xs) (hy : Words ys) (hc : Words cs) (hxl : xs.length = 4) (hyl : ys.length = 4) (hcl : cs.length = 4) :
  Calls Tryd.prog 45 #[aggI .u64 xs, aggI .u64 ys, aggI .u64 cs] w fun e w' => e = .returned (aggI .u64 (numW 8 (valW cs 4 + valW xs 4 * valW ys 4))) ∧ Below w.heap.size w w' := by
 have hpad : cs ++ (List.replicate 8 (0 : Int)).drop cs.length = cs ++ [0, 0, 0, 0] := by rw [hcl]; rfl
 go_enter Tryd.func45, Tryd.ntmps45
 go_wp2_with (first
  | (with_reducible refine at_n 3 ?_; refine wpList_boxI rfl 66 _ rfl .u64 xs rfl ?_; intro w1 A1 s1 b1)
  | (with_reducible refine at_n 4 ?_; refine wpList_boxI rfl 66 _ rfl .u64 ys rfl ?_; intro w2 B2 s2 b2; have A2 := A1.below b2)
  | (with_reducible refine at_n 5 ?_; refine wpList_boxI rfl 66 _ rfl .u64 cs rfl ?_; intro w3 C3 s3 b3; have A3 := A2.below b3; have B3 := B2.below b3)
  | (with_reducible refine at_n 6 ?_; refine wpList_allocI rfl 68 rfl .u64 8 zero_long ?_; intro w4 R4 s4 b4; have A4 := A3.below b4; have B4 := B3.below b4; have C4 := C3.below b4)
  | (with_reducible refine at_n 7 ?_; refine wpList_allocI rfl 68 rfl .u64 8 zero_long ?_; intro w5 D5 s5 b5; have A5 := A4.below b5; have B5 := B4.below b5; have C5 := C4.below b5; have R5 := R4.below b5))
 refine wp_region_ord [[], [], [0, 1]] [some 15, some 16, some 17] 2 (fun b w' => Arr .u64 w' w.heap.size xs ∧ Arr .u64 w' w1.heap.size ys ∧ Arr .u64 w' w2.heap.size cs ∧ Arr .u64 w' w3.heap.size (List.replicate 8 0) ∧ Arr .u64 w' w4.heap.size (if b then cs ++ [0, 0, 0, 0] else List.replicate 8 0) ∧ Below w.heap.size w w') (fun opn f _ => match opn with | 0 => f 0 = .slice (some ⟨w4.heap.size, 0, none⟩) 8 8 | 1 => f 1 = .slice (some ⟨w2.heap.size, 0, none⟩) 4 4 | 2 => f 2 = goInt 4 | _ => True) (fun _ v v' => ∃ zs, v' = v.setRow w4.heap.size zs) (by kernel_rfl) (by kernel_rfl) (by kernel_rfl) (by kernel_rfl) (fun b v v' hb h => ⟨h.1.below hb, h.2.1.below hb, h.2.2.1.below hb, h.2.2.2.1.below hb, h.2.2.2.2.1.below hb, below_then h.2.2.2.2.2 hb⟩) (fun _ _ _ _ _ h => h) (fun _ _ _ _ _ _ _ h => h) ⟨A5.drew, B5.drew, C5.drew, R5.drew, D5.drew, (below_then (below_then (below_then (below_then b1 b2) b3) b4) b5).drew⟩ ?_ ?_
 ·
  refine StepL.other (k := 0) rfl (fun b f W hb hG hH => ?_) ?_
  ·
   obtain rfl := hb rfl
   clear hH
   generalize hA : putL _ _ _ _ = A
   have q7 : A.eval (.tmp 7) = .pointer (some ⟨w4.heap.size, 0, none⟩) := putLn hA 7 rfl rfl rfl
   have r7 := slot_get q7
   clear hA
   refine Does.pure rfl (.slice (some ⟨w4.heap.size, 0, none⟩) 8 8) ?_ ⟨Below.refl _ _, rfl⟩
   go_simp
  refine StepL.other (k := 1) rfl (fun b f W hb hG hH => ?_) ?_
  ·
   obtain rfl := hb rfl
   clear hH
   generalize hA : putL _ _ _ _ = A
   have q5 : A.eval (.tmp 5) = .pointer (some ⟨w2.heap.size, 0, none⟩) := putLn hA 5 rfl rfl rfl
   have r5 := slot_get q5
   clear hA
   refine Does.pure rfl (.slice (some ⟨w2.heap.size, 0, none⟩) 4 4) ?_ ⟨Below.refl _ _, rfl⟩
   go_simp
  refine StepL.self (k := 2) rfl (fun f W hG hH => ?_) ?_
  ·
   obtain ⟨d0, d1, -⟩ := hH
   generalize hA : putL _ _ _ _ = A
   have q15 := putLl hA 15 d0 rfl rfl
   have r15 := slot_get q15
   have q16 := putLl hA 16 d1 rfl rfl
   have r16 := slot_get q16
   clear hA
   refine Does.copyI rfl _ _ _ _ rfl 34 (by kernel_rfl) (by kernel_rfl) w4.heap.size w2.heap.size 8 4 8 4 q15 q16 .u64 (List.replicate 8 0) cs hG.2.2.2.2.1 hG.2.2.1 (by simp) hcl (by omega) ?_
   rw [hpad]
   intro A9
   exact ⟨⟨_, rfl⟩, ⟨hG.1.rowOther (by omega) _, hG.2.1.rowOther (by omega) _, hG.2.2.1.rowOther (by omega) _, hG.2.2.2.1.rowOther (by omega) _, A9, Below.setRow hG.2.2.2.2.2 (by omega) _⟩, rfl⟩
  exact trivial
 ·
  intro f W hG hH
  obtain ⟨d0, d1, d2, -⟩ : (f 0 = .slice (some ⟨w4.heap.size, 0, none⟩) 8 8) ∧ (f 1 = .slice (some ⟨w2.heap.size, 0, none⟩) 4 4) ∧ (f 2 = goInt 4) ∧ True := hH
  rw [show List.range (List.length [[], [], [0, 1]]) = [0, 1, 2] from rfl]
  simp only [putL, List.getElem?_cons_zero, List.getElem?_cons_succ, Option.join, Option.bind_some, id_eq, Act.put, List.setIfInBounds_toArray, List.set_cons_zero, List.set_cons_succ, d0, d1, d2]
  clear d0 d1 d2
  obtain ⟨A, B, CC, R, D, hbel⟩ := hG
  have D : Arr .u64 W w4.heap.size (cs ++ [0, 0, 0, 0]) := D
  go_wp2
  have hG0 : Words (cs ++ [0, 0, 0, 0]) := pad_words hc
  have hL0 : (cs ++ [0, 0, 0, 0]).length = 8 := by simp [hcl]
  have hV0 : valW (cs ++ [0, 0, 0, 0]) 8 = valW cs 4 := valW_pad cs hcl
  generalize cs ++ [0, 0, 0, 0] = ps0 at *
  clear hpad
  go_loopw [18] (fun i wr => ∃ (k : Nat) (ps : List Int), k ≤ 4 ∧ i = .int .i64 k ∧ Arr .u64 wr w.heap.size xs ∧ Arr .u64 wr w1.heap.size ys ∧ Arr .u64 wr w3.heap.size (List.replicate 8 0) ∧ Arr .u64 wr w4.heap.size ps ∧ Words ps ∧ ps.length = 8 ∧ valW ps 8 = valW cs 4 + valW xs k * valW ys 4 ∧ Below w.heap.size w wr) (fun i _ => 4 - (intOf i).toNat)
  case atStart => exact ⟨0, ps0, by omega, rfl, A, B, R, D, hG0, hL0, by rw [hV0]; simp [valW], hbel⟩
  case round =>
   clear A B CC R D hbel hV0 hL0 hG0
   obtain ⟨k, ps, hk, rfl, A, B, R, D, hpw, hpl, hpv, hbel⟩ := hrel
   by_cases hlt : k < 4
   ·
    go_wp2
    go_loopw [9, 21] (fun c j wr => ∃ (m : Nat) (qs : List Int) (cr : Int), m ≤ 4 ∧ j = .int .i64 m ∧ c = .int .u64 cr ∧ (0 ≤ cr ∧ cr < 18446744073709551616) ∧ Arr .u64 wr w.heap.size xs ∧ Arr .u64 wr w1.heap.size ys ∧ Arr .u64 wr w3.heap.size (List.replicate 8 0) ∧ Arr .u64 wr w4.heap.size qs ∧ Words qs ∧ qs.length = 8 ∧ valW qs 8 + cr * 2 ^ (64 * (k + m)) = valW cs 4 + valW xs k * valW ys 4 + at0 xs k * valW ys m * 2 ^ (64 * k) ∧ Below w.heap.size w wr) (fun _ j _ => 4 - (intOf j).toNat)
    case atStart => exact ⟨0, ps, 0, by omega, rfl, rfl, by omega, A, B, R, D, hpw, hpl, by rw [hpv]; simp [valW], hbel⟩
    case round =>
     clear A B R D hbel hpv hpw hpl
     obtain ⟨m, qs, cr, hm, rfl, rfl, hcr, A, B, R, D, hqw, hql, hqv, hbel⟩ := hrel
     by_cases hlm : m < 4
     ·
      obtain ⟨h, l, l1, o1, h1, l2, o2, c2, hM, ha1, hw1, ha2, hw2, hl2, hc2, heq⟩ := mul_step (at0 xs k) (at0 ys m) (at0 qs (k + m)) cr (hx.at k) (hy.at m) (hqw.at (k + m)) hcr
      have hrow := row_step qs xs ys k m (valW cs 4 + valW xs k * valW ys 4) cr l2 c2 hql hlt hlm hqv heq
      have hqw2 := hqw.set (k + m) hl2
      clear heq hqv
      have c0 := A.cell (k := k) (by omega)
      have c1 := B.cell (k := m) (by omega)
      have c2' := D.cell (k := k + m) (by omega)
      have f0 := D.free (k := k + m) (by omega)
      go_wp2
      go_quiet ((go_at_call 77; exact Calls.quiet_of_same (hM _)))
      go_wp2
      refine ⟨⟨m + 1, _, c2, by omega, by go_num, rfl, hc2, (A.drewN _).setOther (by omega) _ _, (B.drewN _).setOther (by omega) _ _, (R.drewN _).setOther (by omega) _ _, (D.drewN _).set _ _, hqw2, by simp [hql], hrow, (below_drewN hbel _).setCell (by show w.heap.size ≤ w4.heap.size; omega) _⟩, by simp [intOf]; omega⟩
     ·
      obtain rfl : m = 4 := by omega
      go_wp2
      go_loopw [9, 14] (fun c j wr => ∃ (t : Nat) (rs : List Int) (cr : Int), k + 4 ≤ t ∧ t ≤ 8 ∧ j = .int .i64 t ∧ c = .int .u64 cr ∧ (0 ≤ cr ∧ cr < 18446744073709551616) ∧ Arr .u64 wr w.heap.size xs ∧ Arr .u64 wr w1.heap.size ys ∧ Arr .u64 wr w3.heap.size (List.replicate 8 0) ∧ Arr .u64 wr w4.heap.size rs ∧ Words rs ∧ rs.length = 8 ∧ valW rs 8 + cr * 2 ^ (64 * t) = valW cs 4 + valW xs k * valW ys 4 + at0 xs k * valW ys 4 * 2 ^ (64 * k) ∧ Below w.heap.size w wr) (fun _ j _ => 8 - (intOf j).toNat)
      case atStart => exact ⟨k + 4, qs, cr, by omega, by omega, by go_num, rfl, hcr, A, B, R, D, hqw, hql, hqv, hbel⟩
      case round =>
       clear A B R D hbel hqv hqw hql hcr
       obtain ⟨t, rs, cr, ht0, ht, rfl, rfl, hcr, A, B, R, D, hrw, hrl, hrv, hbel⟩ := hrel
       by_cases hlt8 : t < 8
       ·
        obtain ⟨l, c2, ha, hl2, hc2, heq⟩ := add_step (at0 rs t) cr (hrw.at t) hcr
        have hrow := tail_step rs t _ cr l c2 hrl hlt8 hrv heq
        have hrw2 := hrw.set t hl2
        clear heq hrv
        have c0 := D.cell (k := t) (by omega)
        have f0 := D.free (k := t) (by omega)
        go_wp2
        exact ⟨⟨t + 1, _, c2, by omega, by omega, by go_num, rfl, hc2, A.setOther (by omega) _ _, B.setOther (by omega) _ _, R.setOther (by omega) _ _, D.set _ _, hrw2, by simp [hrl], hrow, hbel.setCell (by show w.heap.size ≤ w4.heap.size; omega) _⟩, by simp [intOf]; omega⟩
       ·
        obtain rfl : t = 8 := by omega
        have hend := row_end rs xs ys cs hx hy hc hrw k hlt cr hcr.1 hrv
        clear hrv
        go_wp2
        exact ⟨⟨k + 1, rs, by omega, by go_num, A, B, R, D, hrw, hrl, hend, hbel⟩, by simp [intOf]; omega⟩
   ·
    obtain rfl : k = 4 := by omega
    have hys : ps = numW 8 (valW cs 4 + valW xs 4 * valW ys 4) := by rw [← hpv]; exact eq_numW ps hpw 8 hpl
    subst hys
    go_wp2_with (first
     | (with_reducible refine at_n 79 ?_; refine wpList_loadI rfl 68 _ rfl 8 34 und_long info_long w4.heap.size rfl .u64 _ D hpl ?_)
     | (with_reducible refine at_op (o := ⟨_, .store 68 _ _, _, _, _, _⟩) ?_; refine wpList_storeI rfl 68 _ _ rfl 8 info_long w3.heap.size rfl .u64 _ _ rfl R (by simp) hpl ?_; intro A9))
    refine bodyPost_ret (results_cellI rfl _ 8 34 und_long info_long w3.heap.size rfl .u64 _ A9 hpl) rfl ?_
    exact ⟨rfl, Below.setRow hbel (by omega) _⟩
end Go.Proofs.YtelppapkffjmpaaDoor
end
section
--@optional
namespace Go.Proofs.YtelppapkffjmpaaDoor
open Go.RowKit Go.Shelf
set_option linter.unusedVariables false

theorem ordL_eq : ordL = numW 4 ordV := by decide +kernel
theorem ref_L_v (w : World) : Calls Tryd.prog 24 #[] w fun e w' => e = .returned (aggI .u64 (numW 4 ordV)) ∧ Below w.heap.size w w' := by rw [← ordL_eq]; exact ref_L_any w
theorem reduced_v (u : Int) (w : World) (hu : 0 ≤ u ∧ u < 2 ^ 256 * 2 ^ 256) : Calls Tryd.prog 46 #[aggI .u64 (numW 8 u)] w fun e w' => e = .returned (aggI .u64 (numW 4 (u % ordV))) ∧ Below w.heap.size w w' := by
  have h1 := reduced_any (numW 8 u) w (numW_words _ _) (numW_length _ _)
  have e : valW (numW 8 u) 8 = u := by
    rw [valW_numW 8 u hu.1, show (2 : Int) ^ (64 * 8) = 2 ^ 256 * 2 ^ 256 by rw [← Int.pow_add]]
    exact Int.emod_eq_of_lt hu.1 hu.2
  rw [e] at h1
  exact h1
theorem stimes_v (x y c : Int) (w : World) (hx : 0 ≤ x ∧ x < 2 ^ 256) (hy : 0 ≤ y ∧ y < 2 ^ 256) (hc : 0 ≤ c ∧ c < 2 ^ 256) : Calls Tryd.prog 45 #[aggI .u64 (numW 4 x), aggI .u64 (numW 4 y), aggI .u64 (numW 4 c)] w fun e w' => e = .returned (aggI .u64 (numW 8 (c + x * y))) ∧ Below w.heap.size w w' := by
  have h1 := stimes_any (numW 4 x) (numW 4 y) (numW 4 c) w (numW_words _ _) (numW_words _ _) (numW_words _ _) (numW_length _ _) (numW_length _ _) (numW_length _ _)
  rw [numW_val hx.1 hx.2, numW_val hy.1 hy.2, numW_val hc.1 hc.2] at h1
  exact h1

theorem load_v (za : List Int) (w : World) (hb : Bytes za) (hl : za.length = 32) : Calls Tryd.prog 44 #[aggI .u8 za] w fun e w' => e = .returned (aggI .u64 (numW 4 (valB za 32))) ∧ Below w.heap.size w w' := by
  have h := sload_any za w hb hl
  rw [load_eq za hb 4] at h
  exact h
theorem sbytes_v (v : Int) (w : World) : Calls Tryd.prog 47 #[aggI .u64 (numW 4 v)] w fun e w' => e = .returned (aggI .u8 (numB v)) ∧ Below w.heap.size w w' := bytes_any (numW 4 v) w (numW_words _ _) (numW_length _ _)
end Go.Proofs.YtelppapkffjmpaaDoor
end
section
--@optional
namespace Go.Proofs.YtelppapkffjmpaaDoor
open Go.RowKit Go.Shelf
set_option linter.unusedVariables false
set_option maxRecDepth 8000

set_option maxHeartbeats 4000000 in
theorem muladd_v (xb yb cb : List Int) (w : World) (hxb : Bytes xb) (hyb : Bytes yb) (hcb : Bytes cb) (hxl : xb.length = 32) (hyl : yb.length = 32) (hcl : cb.length = 32) :
  Calls Tryd.prog 25 #[aggI .u8 xb, aggI .u8 yb, aggI .u8 cb] w fun e w' => e = .returned (aggI .u8 (numB ((valB cb 32 + valB xb 32 * valB yb 32) % ordV))) ∧ Below w.heap.size w w' := by
 have LX := fun W => load_v xb W hxb hxl
 have LY := fun W => load_v yb W hyb hyl
 have LC := fun W => load_v cb W hcb hcl
 have hxv := valB_32 xb hxb
 have hyv := valB_32 yb hyb
 have hcv := valB_32 cb hcb
 generalize valB xb 32 = xv at *
 generalize valB yb 32 = yv at *
 generalize valB cb 32 = cv at *
 have hT : 0 ≤ cv + xv * yv ∧ cv + xv * yv < 2 ^ 256 * 2 ^ 256 := by
  have h1 : 0 ≤ xv * yv := Int.mul_nonneg hxv.1 hyv.1
  have h2 : xv * yv ≤ (2 ^ 256 - 1) * (2 ^ 256 - 1) := Int.mul_le_mul (by omega) (by omega) hyv.1 (by decide +kernel)
  simp only [Int.reducePow] at *
  generalize xv * yv = m at *
  omega
 go_enter Tryd.func25, Tryd.ntmps25
 go_wp2_with (first
  | (with_reducible refine at_n 3 ?_; refine wpList_boxI rfl 22 _ rfl .u8 xb rfl ?_; intro w1 A1 s1 b1)
  | (with_reducible refine at_n 4 ?_; refine wpList_boxI rfl 22 _ rfl .u8 yb rfl ?_; intro w2 A2 s2 b2; have X2 := A1.below b2)
  | (with_reducible refine at_n 5 ?_; refine wpList_boxI rfl 22 _ rfl .u8 cb rfl ?_; intro w3 A3 s3 b3; have X3 := X2.below b3; have Y3 := A2.below b3)
  | (with_reducible refine at_n 6 ?_; refine wpList_allocI rfl 22 rfl .u8 32 zero_a32 ?_; intro w4 A4 s4 b4; have X4 := X3.below b4; have Y4 := Y3.below b4; have C4 := A3.below b4))
 refine wp_region_ord [[], [0], [], [2, 1], [], [4, 3], [1, 3, 5, 5], [6, 6], [7, 7], [8, 8, 0, 1, 2, 3, 4, 5, 6, 7, 8]] [some 7, some 8, some 9, some 10, some 11, some 12, some 13, some 14, some 15, none] 9 (fun b w' => Arr .u8 w' w.heap.size xb ∧ Arr .u8 w' w1.heap.size yb ∧ Arr .u8 w' w2.heap.size cb ∧ Arr .u8 w' w3.heap.size (if b then numB ((cv + xv * yv) % ordV) else List.replicate 32 0) ∧ Below w.heap.size w w') (fun opn f _ => match opn with | 0 => f 0 = aggI .u8 xb | 1 => f 1 = aggI .u64 (numW 4 xv) | 2 => f 2 = aggI .u8 yb | 3 => f 3 = aggI .u64 (numW 4 yv) | 4 => f 4 = aggI .u8 cb | 5 => f 5 = aggI .u64 (numW 4 cv) | 6 => f 6 = aggI .u64 (numW 8 (cv + xv * yv)) | 7 => f 7 = aggI .u64 (numW 4 ((cv + xv * yv) % ordV)) | 8 => f 8 = aggI .u8 (numB ((cv + xv * yv) % ordV)) | 9 => f 9 = undef | _ => True) (fun _ v v' => ∃ cs, v' = v.setRow (w3.heap.size) cs) (by kernel_rfl) (by kernel_rfl) (by kernel_rfl) (by kernel_rfl) (fun b v v' hb h => ⟨h.1.below hb, h.2.1.below hb, h.2.2.1.below hb, h.2.2.2.1.below hb, below_then h.2.2.2.2 hb⟩) (fun _ _ _ _ _ h => h) (fun _ _ _ _ _ _ _ h => h) ⟨X4.drew, Y4.drew, C4.drew, A4.drew, (below_then (below_then (below_then b1 b2) b3) b4).drew⟩ ?_ ?_
 ·
  refine StepL.other (k := 0) rfl (fun b f W hb hG hH => ?_) ?_
  ·
   obtain rfl := hb rfl
   clear hH
   generalize hA : putL _ _ _ _ = A
   have q3 : A.eval (.tmp 3) = .pointer (some ⟨w.heap.size, 0, none⟩) := putLn hA 3 rfl rfl rfl
   have r3 := slot_get q3
   clear hA
   exact Does.loadI rfl 22 _ rfl 32 5 und_a32 info_a32 (w.heap.size) q3 .u8 (xb) (hG.1) (hxl) ⟨Below.refl _ _, rfl⟩
  refine StepL.other (k := 1) rfl (fun b f W hb hG hH => ?_) ?_
  ·
   obtain rfl := hb rfl
   obtain ⟨d0, -⟩ := hH
   generalize hA : putL _ _ _ _ = A
   have q7 := putLl hA 7 d0 rfl rfl
   have r7 := slot_get q7
   clear hA
   refine Does.call rfl _ _ (by go_simp) ((LX W).mono ?_)
   rintro e w' ⟨rfl, hb'⟩
   exact ⟨_, rfl, hb', rfl⟩
  refine StepL.other (k := 2) rfl (fun b f W hb hG hH => ?_) ?_
  ·
   obtain rfl := hb rfl
   clear hH
   generalize hA : putL _ _ _ _ = A
   have q4 : A.eval (.tmp 4) = .pointer (some ⟨w1.heap.size, 0, none⟩) := putLn hA 4 rfl rfl rfl
   have r4 := slot_get q4
   clear hA
   exact Does.loadI rfl 22 _ rfl 32 5 und_a32 info_a32 (w1.heap.size) q4 .u8 (yb) (hG.2.1) (hyl) ⟨Below.refl _ _, rfl⟩
  refine StepL.other (k := 3) rfl (fun b f W hb hG hH => ?_) ?_
  ·
   obtain rfl := hb rfl
   obtain ⟨d2, d1, -⟩ := hH
   generalize hA : putL _ _ _ _ = A
   have q9 := putLl hA 9 d2 rfl rfl
   have r9 := slot_get q9
   clear hA
   refine Does.call rfl _ _ (by go_simp) ((LY W).mono ?_)
   rintro e w' ⟨rfl, hb'⟩
   exact ⟨_, rfl, hb', rfl⟩
  refine StepL.other (k := 4) rfl (fun b f W hb hG hH => ?_) ?_
  ·
   obtain rfl := hb rfl
   clear hH
   generalize hA : putL _ _ _ _ = A
   have q5 : A.eval (.tmp 5) = .pointer (some ⟨w2.heap.size, 0, none⟩) := putLn hA 5 rfl rfl rfl
   have r5 := slot_get q5
   clear hA
   exact Does.loadI rfl 22 _ rfl 32 5 und_a32 info_a32 (w2.heap.size) q5 .u8 (cb) (hG.2.2.1) (hcl) ⟨Below.refl _ _, rfl⟩
  refine StepL.other (k := 5) rfl (fun b f W hb hG hH => ?_) ?_
  ·
   obtain rfl := hb rfl
   obtain ⟨d4, d3, -⟩ := hH
   generalize hA : putL _ _ _ _ = A
   have q11 := putLl hA 11 d4 rfl rfl
   have r11 := slot_get q11
   clear hA
   refine Does.call rfl _ _ (by go_simp) ((LC W).mono ?_)
   rintro e w' ⟨rfl, hb'⟩
   exact ⟨_, rfl, hb', rfl⟩
  refine StepL.other (k := 6) rfl (fun b f W hb hG hH => ?_) ?_
  ·
   obtain rfl := hb rfl
   obtain ⟨d1, d3, d5, -, -⟩ := hH
   generalize hA : putL _ _ _ _ = A
   have q8 := putLl hA 8 d1 rfl rfl
   have r8 := slot_get q8
   have q10 := putLl hA 10 d3 rfl rfl
   have r10 := slot_get q10
   have q12 := putLl hA 12 d5 rfl rfl
   have r12 := slot_get q12
   clear hA
   refine Does.call rfl _ _ (by go_simp) ((stimes_v xv yv cv W hxv hyv hcv).mono ?_)
   rintro e w' ⟨rfl, hb'⟩
   exact ⟨_, rfl, hb', rfl⟩
  refine StepL.other (k := 7) rfl (fun b f W hb hG hH => ?_) ?_
  ·
   obtain rfl := hb rfl
   obtain ⟨d6, -, -⟩ := hH
   generalize hA : putL _ _ _ _ = A
   have q13 := putLl hA 13 d6 rfl rfl
   have r13 := slot_get q13
   clear hA
   refine Does.call rfl _ _ (by go_simp) ((reduced_v (cv + xv * yv) W hT).mono ?_)
   rintro e w' ⟨rfl, hb'⟩
   exact ⟨_, rfl, hb', rfl⟩
  refine StepL.other (k := 8) rfl (fun b f W hb hG hH => ?_) ?_
  ·
   obtain rfl := hb rfl
   obtain ⟨d7, -, -⟩ := hH
   generalize hA : putL _ _ _ _ = A
   have q14 := putLl hA 14 d7 rfl rfl
   have r14 := slot_get q14
   clear hA
   refine Does.call rfl _ _ (by go_simp) ((sbytes_v ((cv + xv * yv) % ordV) W).mono ?_)
   rintro e w' ⟨rfl, hb'⟩
   exact ⟨_, rfl, hb', rfl⟩
  refine StepL.self (k := 9) rfl (fun f W hG hH => ?_) ?_
  ·
   obtain ⟨d8, -, d0, d1, d2, d3, d4, d5, d6, d7, -, -⟩ := hH
   generalize hA : putL _ _ _ _ = A
   have q6 : A.eval (.tmp 6) = .pointer (some ⟨w3.heap.size, 0, none⟩) := putLn hA 6 rfl rfl rfl
   have r6 := slot_get q6
   have q15 := putLl hA 15 d8 rfl rfl
   have r15 := slot_get q15
   clear hA
   refine Does.storeI rfl 22 _ _ rfl 32 info_a32 (w3.heap.size) q6 .u8 _ _ q15 hG.2.2.2.1 rfl (numB_length _) ?_
   intro A9
   exact ⟨⟨_, rfl⟩, ⟨hG.1.rowOther (by omega) _, hG.2.1.rowOther (by omega) _, hG.2.2.1.rowOther (by omega) _, A9, Below.setRow hG.2.2.2.2 (by omega) _⟩, rfl⟩
  exact trivial
 ·
  intro f W hG hH
  obtain ⟨d0, d1, d2, d3, d4, d5, d6, d7, d8, d9, -⟩ : (f 0 = aggI .u8 xb) ∧ (f 1 = aggI .u64 (numW 4 xv)) ∧ (f 2 = aggI .u8 yb) ∧ (f 3 = aggI .u64 (numW 4 yv)) ∧ (f 4 = aggI .u8 cb) ∧ (f 5 = aggI .u64 (numW 4 cv)) ∧ (f 6 = aggI .u64 (numW 8 (cv + xv * yv))) ∧ (f 7 = aggI .u64 (numW 4 ((cv + xv * yv) % ordV))) ∧ (f 8 = aggI .u8 (numB ((cv + xv * yv) % ordV))) ∧ (f 9 = undef) ∧ True := hH
  rw [show List.range (List.length [[], [0], [], [2, 1], [], [4, 3], [1, 3, 5, 5], [6, 6], [7, 7], [8, 8, 0, 1, 2, 3, 4, 5, 6, 7, 8]]) = [0, 1, 2, 3, 4, 5, 6, 7, 8, 9] from rfl]
  simp only [putL, List.getElem?_cons_zero, List.getElem?_cons_succ, Option.join, Option.bind_some, id_eq, Act.put, List.setIfInBounds_toArray, List.set_cons_zero, List.set_cons_succ, d0, d1, d2, d3, d4, d5, d6, d7, d8]
  clear d0 d1 d2 d3 d4 d5 d6 d7 d8 d9
  obtain ⟨-, -, -, A9, hbel⟩ := hG
  have A9 : Arr .u8 W (w3.heap.size) (numB ((cv + xv * yv) % ordV)) := A9
  go_wp2
  refine bodyPost_ret (results_cellI rfl _ 32 5 und_a32 info_a32 (w3.heap.size) rfl .u8 _ A9 (numB_length _)) rfl ?_
  exact ⟨rfl, hbel⟩
end Go.Proofs.YtelppapkffjmpaaDoor
end
