/- Package scalar's Clamp, and the reference's. -/
--@optional
import Derived.Test.YtohnicmacmkapaaDoorArr
namespace Go.Proofs.YtohnicmacmkapaaDoor
open Go.RowKit
set_option linter.unusedVariables false
set_option maxRecDepth 8000

def clampS (za : List Int) : List Int := (za.set 0 (at0 za 0 / 8 * 8)).set 31 (at0 za 31 % 64 + 64)
theorem info_a32 : (Tryd.prog.info? 27).map (·.size) = some 32 := by kernel_rfl
theorem zero_a32 : (Tryd.prog.info? 27).bind (·.zero) = some (.agg (Array.replicate 32 (Value.int .u8 0))) := by kernel_rfl
theorem und_a32 : Tryd.prog.underlying 27 = some (.array 32 5) := by kernel_rfl
theorem byte_of {p : Int → Prop} (h : ∀ n, n < 256 → p (n : Nat)) {x : Int} (hx : 0 ≤ x ∧ x ≤ 255) : p x := by
  obtain ⟨n, rfl⟩ := Int.eq_ofNat_of_zero_le hx.1
  exact h n (by omega)
theorem clamp_lo {x : Int} (hx : 0 ≤ x ∧ x ≤ 255) : bits BinOp.and IntKind.u8 x 248 = x / 8 * 8 :=
  byte_of (p := fun x => bits BinOp.and IntKind.u8 x 248 = x / 8 * 8) (by decide +kernel) hx
theorem clamp_hi {x : Int} (hx : 0 ≤ x ∧ x ≤ 255) : bits BinOp.or IntKind.u8 (bits BinOp.and IntKind.u8 x 127) 64 = x % 64 + 64 :=
  byte_of (p := fun x => bits BinOp.or IntKind.u8 (bits BinOp.and IntKind.u8 x 127) 64 = x % 64 + 64) (by decide +kernel) hx
theorem Below.setRow {B : Nat} {a w : World} (h : Below B a w) {g : Nat} (hg : B ≤ g) (cs : Array Value) : Below B a (w.setRow g cs) := by
  refine ⟨h.os, h.tape, h.output, ?_, fun k hk => ?_⟩
  · have := h.size
    simpa [World.setRow] using this
  · rw [setRow_other w g k cs (by omega)]
    exact h.block k hk

end Go.Proofs.YtohnicmacmkapaaDoor
