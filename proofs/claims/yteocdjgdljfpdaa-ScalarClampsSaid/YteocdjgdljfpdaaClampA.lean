/- Package scalar's Clamp, and the reference's. -/
import Derived.Test.YteocdjgdljfpdaaArr
namespace Go.Proofs.Yteocdjgdljfpdaa
open Go.RowKit
set_option linter.unusedVariables false

def clampS (za : List Int) : List Int := (za.set 0 (at0 za 0 / 8 * 8)).set 31 (at0 za 31 % 64 + 64)
theorem info_a32 : (Try.prog.info? 23).map (·.size) = some 32 := by kernel_rfl
theorem zero_a32 : (Try.prog.info? 23).bind (·.zero) = some (.agg (Array.replicate 32 (Value.int .u8 0))) := by kernel_rfl
theorem und_a32 : Try.prog.underlying 23 = some (.array 32 5) := by kernel_rfl
theorem byte_of {p : Int → Prop} (h : ∀ n, n < 256 → p (n : Nat)) {x : Int} (hx : 0 ≤ x ∧ x ≤ 255) : p x := by
  obtain ⟨n, rfl⟩ := Int.eq_ofNat_of_zero_le hx.1
  exact h n (by omega)
theorem clamp_lo {x : Int} (hx : 0 ≤ x ∧ x ≤ 255) : bits BinOp.and IntKind.u8 x 248 = x / 8 * 8 :=
  byte_of (p := fun x => bits BinOp.and IntKind.u8 x 248 = x / 8 * 8) (by decide +kernel) hx
theorem clamp_hi {x : Int} (hx : 0 ≤ x ∧ x ≤ 255) : bits BinOp.or IntKind.u8 (bits BinOp.and IntKind.u8 x 127) 64 = x % 64 + 64 :=
  byte_of (p := fun x => bits BinOp.or IntKind.u8 (bits BinOp.and IntKind.u8 x 127) 64 = x % 64 + 64) (by decide +kernel) hx
theorem Below.setRow {B : Nat} {a w : World} (h : Below B a w) {g : Nat} (hg : B ≤ g) (cs : Array Value) : Below B a (w.setRow g cs) := by
  refine ⟨h.os, h.tape, h.output, ?_, fun k hk => ?_⟩
  · have := h.size
    simpa [World.setRow] using this
  · rw [setRow_other w g k cs (by omega)]
    exact h.block k hk

set_option maxHeartbeats 400000 in
theorem clamp_any (za : List Int) (w : World) (hb : Bytes za) (hl : za.length = 32) :
    Calls Try.prog 14 #[aggI .u8 za] w fun e w' => e = .returned (aggI .u8 (clampS za)) ∧ Below w.heap.size w w' := by
  have e0 := clamp_lo (hb.at 0)
  have e1 := clamp_hi (hb.at 31)
  go_enter Try.func14, Try.ntmps14
  go_wp2_with (first
    | (with_reducible refine at_op (o := ⟨some 1, _, _, _, _, _⟩) ?_; refine wpList_boxI rfl 23 _ rfl .u8 za rfl ?_; intro w1 A1 s1 b1)
    | (with_reducible refine at_op (o := ⟨some 2, _, _, _, _, _⟩) ?_; refine wpList_allocI rfl 23 rfl .u8 32 zero_a32 ?_; intro w2 R2 s2 b2; have A2 := A1.below b2; have c0 := A2.cell (k := 0) (by omega); have c1 := A2.cell (k := 31) (by omega); have f0 := A2.free (k := 0) (by omega); have f1 := A2.free (k := 31) (by omega))
    | (with_reducible refine at_op (o := ⟨some 12, _, _, _, _, _⟩) ?_; refine wpList_loadI rfl 23 _ rfl 32 5 und_a32 info_a32 w.heap.size rfl .u8 (clampS za) ((A2.set 0 _).set 31 _) (by simp [clampS, hl]) ?_)
    | (with_reducible refine at_op (o := ⟨_, .store 23 _ _, _, _, _, _⟩) ?_; refine wpList_storeI rfl 23 _ _ rfl 32 info_a32 w1.heap.size rfl .u8 _ (clampS za) rfl ((R2.setOther (by omega) _ _).setOther (by omega) _ _) (by simp) (by simp [clampS, hl]) ?_; intro A3))
  refine bodyPost_ret (results_cellI rfl _ 32 5 und_a32 info_a32 w1.heap.size rfl .u8 (clampS za) A3 (by simp [clampS, hl])) rfl ?_
  exact ⟨rfl, Below.setRow (((below_then b1 b2).setCell (Nat.le_refl _) _).setCell (Nat.le_refl _) _) (by omega) _⟩

set_option maxHeartbeats 400000 in
theorem ref_clamp_any (za : List Int) (w : World) (hb : Bytes za) (hl : za.length = 32) :
    Calls Try.prog 15 #[aggI .u8 za] w fun e w' => e = .returned (aggI .u8 (clampS za)) ∧ Below w.heap.size w w' := by
  have h0 := hb.at 0
  have h1 := hb.at 31
  go_enter Try.func15, Try.ntmps15
  go_wp2_with (first
    | (with_reducible refine at_op (o := ⟨some 1, _, _, _, _, _⟩) ?_; refine wpList_boxI rfl 23 _ rfl .u8 za rfl ?_; intro w1 A1 s1 b1)
    | (with_reducible refine at_op (o := ⟨some 2, _, _, _, _, _⟩) ?_; refine wpList_allocI rfl 23 rfl .u8 32 zero_a32 ?_; intro w2 R2 s2 b2; have A2 := A1.below b2; have c0 := A2.cell (k := 0) (by omega); have c1 := A2.cell (k := 31) (by omega); have f0 := A2.free (k := 0) (by omega); have f1 := A2.free (k := 31) (by omega))
    | (with_reducible refine at_op (o := ⟨some 13, _, _, _, _, _⟩) ?_; refine wpList_loadI rfl 23 _ rfl 32 5 und_a32 info_a32 w.heap.size rfl .u8 (clampS za) ((A2.set 0 _).set 31 _) (by simp [clampS, hl]) ?_)
    | (with_reducible refine at_op (o := ⟨_, .store 23 _ _, _, _, _, _⟩) ?_; refine wpList_storeI rfl 23 _ _ rfl 32 info_a32 w1.heap.size rfl .u8 _ (clampS za) rfl ((R2.setOther (by omega) _ _).setOther (by omega) _ _) (by simp) (by simp [clampS, hl]) ?_; intro A3))
  refine bodyPost_ret (results_cellI rfl _ 32 5 und_a32 info_a32 w1.heap.size rfl .u8 (clampS za) A3 (by simp [clampS, hl])) rfl ?_
  exact ⟨rfl, Below.setRow (((below_then b1 b2).setCell (Nat.le_refl _) _).setCell (Nat.le_refl _) _) (by omega) _⟩
end Go.Proofs.Yteocdjgdljfpdaa
